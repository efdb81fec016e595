/- The program's HeapPush over slices of any room. -/
import Derived.Test.YteecpandpkicmaaHeapsG29
import Derived.Test.YteecpandpkicmaaHeapsLPushNo
import Derived.Test.YteecpandpkicmaaHeapsLPushAll
namespace Go.Proofs.Yteecpandpkicmaa
open Go.RowKit
set_option maxRecDepth 100000 in
set_option maxHeartbeats 4000000 in
theorem gPush_bad (a : Option Addr) (cap : Nat) (l : List Ev) (e : Ev) (w : World) (hl : l.length ≤ 1048576) (hR : Src w (.slice a l.length cap) l) (hw0 : 0 < w.heap.size) (hg : ¬ GoodH l) :
    Calls Try.prog 15 #[.slice a l.length cap, .agg #[.int .i64 e.t, .int .i64 e.s, .int .i64 e.q, .int .i64 e.d, .int .i64 e.k, .int .i64 e.v, .int .i64 e.g]] w fun r w' => AnswersR w.heap.size [] false r w' ∧ Below w.heap.size w w' := by
  have hB0 : Below w.heap.size w (w.alloc (.cells #[.int .i64 e.t, .int .i64 e.s, .int .i64 e.q, .int .i64 e.d, .int .i64 e.k, .int .i64 e.v, .int .i64 e.g] 25)) := (Below.refl _ w).alloc (Nat.le_refl _) _
  have HR : Hid (Src (w.alloc (.cells #[.int .i64 e.t, .int .i64 e.s, .int .i64 e.q, .int .i64 e.d, .int .i64 e.k, .int .i64 e.v, .int .i64 e.g] 25)) (.slice a l.length cap) l) := hR.below hB0
  have HB0 : Hid (Below w.heap.size w (w.alloc (.cells #[.int .i64 e.t, .int .i64 e.s, .int .i64 e.q, .int .i64 e.d, .int .i64 e.k, .int .i64 e.v, .int .i64 e.g] 25))) := hB0
  have HE0 : Hid (Ev.In (w.alloc (.cells #[.int .i64 e.t, .int .i64 e.s, .int .i64 e.q, .int .i64 e.d, .int .i64 e.k, .int .i64 e.v, .int .i64 e.g] 25)) w.heap.size 0 e) := newE w e
  have hs0 : w.heap.size < (w.alloc (.cells #[.int .i64 e.t, .int .i64 e.s, .int .i64 e.q, .int .i64 e.d, .int .i64 e.k, .int .i64 e.v, .int .i64 e.g] 25)).heap.size := by simp
  clear hR hB0
  have HG : Hid (¬ GoodH l) := hg
  clear hg
  go_enter Try.func15, Try.ntmps15
  go_wp2_with fail
  generalize w.alloc (.cells #[.int .i64 e.t, .int .i64 e.s, .int .i64 e.q, .int .i64 e.d, .int .i64 e.k, .int .i64 e.v, .int .i64 e.g] 25) = W at *
  refine (iHeap_src _ _ l _ hl HR.out (by first | omega | (simp; done) | (have h9 := HB0.out.size; omega) | (have h9 := HB1.out.size; omega))).mono ?_
  rintro r w1 ⟨⟨bb, rfl, hs⟩, hb1⟩
  have hbb : bb = false := by cases bb with | false => rfl | true => exact (HG.out (hs.1 rfl)).elim
  subst hbb
  clear hs
  have HB1 : Hid (Below w.heap.size w w1) := HB0.out.trans (hb1.mono (Nat.le_of_lt hs0))
  have HR1 : Hid (Src w1 (.slice a l.length cap) l) := HR.out.below hb1
  have HE1 : Hid (Ev.In w1 w.heap.size 0 e) := HE0.out.below hb1 hs0
  have hs1 : w.heap.size < w1.heap.size := Nat.lt_of_lt_of_le hs0 hb1.size
  clear hb1 HR HE0
  go_wp2
  go_ret2
  exact ⟨⟨_, rfl, OwnR.nil _ _⟩, HB1.out⟩
set_option maxRecDepth 100000 in
set_option maxHeartbeats 4000000 in
theorem gPush_bade (a : Option Addr) (cap : Nat) (l : List Ev) (e : Ev) (w : World) (hl : l.length ≤ 1048576) (hR : Src w (.slice a l.length cap) l) (hw0 : 0 < w.heap.size) (hg : GoodH l) (he : e.ok = false) :
    Calls Try.prog 15 #[.slice a l.length cap, .agg #[.int .i64 e.t, .int .i64 e.s, .int .i64 e.q, .int .i64 e.d, .int .i64 e.k, .int .i64 e.v, .int .i64 e.g]] w fun r w' => AnswersR w.heap.size [] false r w' ∧ Below w.heap.size w w' := by
  have hB0 : Below w.heap.size w (w.alloc (.cells #[.int .i64 e.t, .int .i64 e.s, .int .i64 e.q, .int .i64 e.d, .int .i64 e.k, .int .i64 e.v, .int .i64 e.g] 25)) := (Below.refl _ w).alloc (Nat.le_refl _) _
  have HR : Hid (Src (w.alloc (.cells #[.int .i64 e.t, .int .i64 e.s, .int .i64 e.q, .int .i64 e.d, .int .i64 e.k, .int .i64 e.v, .int .i64 e.g] 25)) (.slice a l.length cap) l) := hR.below hB0
  have HB0 : Hid (Below w.heap.size w (w.alloc (.cells #[.int .i64 e.t, .int .i64 e.s, .int .i64 e.q, .int .i64 e.d, .int .i64 e.k, .int .i64 e.v, .int .i64 e.g] 25))) := hB0
  have HE0 : Hid (Ev.In (w.alloc (.cells #[.int .i64 e.t, .int .i64 e.s, .int .i64 e.q, .int .i64 e.d, .int .i64 e.k, .int .i64 e.v, .int .i64 e.g] 25)) w.heap.size 0 e) := newE w e
  have hs0 : w.heap.size < (w.alloc (.cells #[.int .i64 e.t, .int .i64 e.s, .int .i64 e.q, .int .i64 e.d, .int .i64 e.k, .int .i64 e.v, .int .i64 e.g] 25)).heap.size := by simp
  clear hR hB0
  have HG : Hid (GoodH l) := hg
  have HEO : Hid (e.ok = false) := he
  clear hg he
  go_enter Try.func15, Try.ntmps15
  go_wp2_with fail
  generalize w.alloc (.cells #[.int .i64 e.t, .int .i64 e.s, .int .i64 e.q, .int .i64 e.d, .int .i64 e.k, .int .i64 e.v, .int .i64 e.g] 25) = W at *
  refine (iHeap_src _ _ l _ hl HR.out (by first | omega | (simp; done) | (have h9 := HB0.out.size; omega) | (have h9 := HB1.out.size; omega))).mono ?_
  rintro r w1 ⟨⟨bb, rfl, hs⟩, hb1⟩
  have hbb : bb = true := hs.2 HG.out
  subst hbb
  clear hs
  have HB1 : Hid (Below w.heap.size w w1) := HB0.out.trans (hb1.mono (Nat.le_of_lt hs0))
  have HR1 : Hid (Src w1 (.slice a l.length cap) l) := HR.out.below hb1
  have HE1 : Hid (Ev.In w1 w.heap.size 0 e) := HE0.out.below hb1 hs0
  have hs1 : w.heap.size < w1.heap.size := Nat.lt_of_lt_of_le hs0 hb1.size
  clear hb1 HR HE0
  obtain ⟨f0, f1, f2, f3, f4, f5, f6⟩ := HE1.out.lits
  go_wp2_with fail
  refine (iOk_ev e false HEO.out _).mono ?_
  rintro r w2 ⟨rfl, hb2⟩
  clear f0 f1 f2 f3 f4 f5 f6
  have HB2 : Hid (Below w.heap.size w w2) := HB1.out.trans (hb2.mono HB1.out.size)
  have HR2 : Hid (Src w2 (.slice a l.length cap) l) := HR1.out.below hb2
  have HE2 : Hid (Ev.In w2 w.heap.size 0 e) := HE1.out.below hb2 hs1
  have hs2 : w.heap.size < w2.heap.size := Nat.lt_of_lt_of_le hs1 hb2.size
  clear hb2 HR1 HE1 HB1
  go_wp2
  go_ret2
  exact ⟨⟨_, rfl, OwnR.nil _ _⟩, HB2.out⟩
set_option maxRecDepth 100000 in
set_option maxHeartbeats 4000000 in
theorem gPush_full (a : Option Addr) (cap : Nat) (l : List Ev) (e : Ev) (w : World) (hl : l.length ≤ 1048576) (hR : Src w (.slice a l.length cap) l) (hw0 : 0 < w.heap.size) (hg : GoodH l) (he : e.ok = true) (hf : 2000 ≤ l.length) :
    Calls Try.prog 15 #[.slice a l.length cap, .agg #[.int .i64 e.t, .int .i64 e.s, .int .i64 e.q, .int .i64 e.d, .int .i64 e.k, .int .i64 e.v, .int .i64 e.g]] w fun r w' => AnswersR w.heap.size l false r w' ∧ Below w.heap.size w w' := by
  have hB0 : Below w.heap.size w (w.alloc (.cells #[.int .i64 e.t, .int .i64 e.s, .int .i64 e.q, .int .i64 e.d, .int .i64 e.k, .int .i64 e.v, .int .i64 e.g] 25)) := (Below.refl _ w).alloc (Nat.le_refl _) _
  have HR : Hid (Src (w.alloc (.cells #[.int .i64 e.t, .int .i64 e.s, .int .i64 e.q, .int .i64 e.d, .int .i64 e.k, .int .i64 e.v, .int .i64 e.g] 25)) (.slice a l.length cap) l) := hR.below hB0
  have HB0 : Hid (Below w.heap.size w (w.alloc (.cells #[.int .i64 e.t, .int .i64 e.s, .int .i64 e.q, .int .i64 e.d, .int .i64 e.k, .int .i64 e.v, .int .i64 e.g] 25))) := hB0
  have HE0 : Hid (Ev.In (w.alloc (.cells #[.int .i64 e.t, .int .i64 e.s, .int .i64 e.q, .int .i64 e.d, .int .i64 e.k, .int .i64 e.v, .int .i64 e.g] 25)) w.heap.size 0 e) := newE w e
  have hs0 : w.heap.size < (w.alloc (.cells #[.int .i64 e.t, .int .i64 e.s, .int .i64 e.q, .int .i64 e.d, .int .i64 e.k, .int .i64 e.v, .int .i64 e.g] 25)).heap.size := by simp
  clear hR hB0
  have HG : Hid (GoodH l) := hg
  have HEO : Hid (e.ok = true) := he
  have hf1 : (2000 : Int) ≤ (l.length : Int) := by omega
  clear hg he
  go_enter Try.func15, Try.ntmps15
  go_wp2_with fail
  generalize w.alloc (.cells #[.int .i64 e.t, .int .i64 e.s, .int .i64 e.q, .int .i64 e.d, .int .i64 e.k, .int .i64 e.v, .int .i64 e.g] 25) = W at *
  refine (iHeap_src _ _ l _ hl HR.out (by first | omega | (simp; done) | (have h9 := HB0.out.size; omega) | (have h9 := HB1.out.size; omega))).mono ?_
  rintro r w1 ⟨⟨bb, rfl, hs⟩, hb1⟩
  have hbb : bb = true := hs.2 HG.out
  subst hbb
  clear hs
  have HB1 : Hid (Below w.heap.size w w1) := HB0.out.trans (hb1.mono (Nat.le_of_lt hs0))
  have HR1 : Hid (Src w1 (.slice a l.length cap) l) := HR.out.below hb1
  have HE1 : Hid (Ev.In w1 w.heap.size 0 e) := HE0.out.below hb1 hs0
  have hs1 : w.heap.size < w1.heap.size := Nat.lt_of_lt_of_le hs0 hb1.size
  clear hb1 HR HE0
  obtain ⟨f0, f1, f2, f3, f4, f5, f6⟩ := HE1.out.lits
  go_wp2_with fail
  refine (iOk_ev e true HEO.out _).mono ?_
  rintro r w2 ⟨rfl, hb2⟩
  clear f0 f1 f2 f3 f4 f5 f6
  have HB2 : Hid (Below w.heap.size w w2) := HB1.out.trans (hb2.mono HB1.out.size)
  have HR2 : Hid (Src w2 (.slice a l.length cap) l) := HR1.out.below hb2
  have HE2 : Hid (Ev.In w2 w.heap.size 0 e) := HE1.out.below hb2 hs1
  have hs2 : w.heap.size < w2.heap.size := Nat.lt_of_lt_of_le hs1 hb2.size
  clear hb2 HR1 HE1 HB1
  have hme := fun w P => m_events P w
  go_wp2_with fail
  refine (pileOf_any _ l _ (by omega) HR2.out).mono ?_
  rintro r w3 ⟨P, v, rfl, hp3, hb3⟩
  have HP3 : Hid (Pl w3 w2.heap.size P v l) := hp3
  have HB3 : Hid (Below w2.heap.size w2 w3) := hb3
  have HE3 : Hid (Ev.In w3 w.heap.size 0 e) := HE2.out.below hb3 hs2
  have hs3 : w.heap.size < w3.heap.size := Nat.lt_of_lt_of_le hs2 hb3.size
  have HPX : Hid (Pl (w3.alloc (.cells #[.int .i64 e.t, .int .i64 e.s, .int .i64 e.q, .int .i64 e.d, .int .i64 e.k, .int .i64 e.v, .int .i64 e.g] 25)) w2.heap.size P v l) := hp3.alloc _
  have HBX : Hid (Below w2.heap.size w2 (w3.alloc (.cells #[.int .i64 e.t, .int .i64 e.s, .int .i64 e.q, .int .i64 e.d, .int .i64 e.k, .int .i64 e.v, .int .i64 e.g] 25))) := hb3.alloc hb3.size _
  have HEX : Hid (EvsAt (w3.alloc (.cells #[.int .i64 e.t, .int .i64 e.s, .int .i64 e.q, .int .i64 e.d, .int .i64 e.k, .int .i64 e.v, .int .i64 e.g] 25)) w3.heap.size 0 [e]) := ⟨by simp, fun i hi => by
    have h0 : i = 0 := by simp at hi; omega
    subst h0
    exact newE w3 e⟩
  have HLO : Hid (P < w3.heap.size ∧ w2.heap.size ≤ P ∧ (∀ k, v.ownBlock = some k → w2.heap.size ≤ k ∧ k < w3.heap.size)) := ⟨hp3.box.lt, hp3.low, fun k e => OwnR.block hp3.row e⟩
  have hz3 : w2.heap.size ≤ w3.heap.size := hb3.size
  have hzX : w3.heap.size < (w3.alloc (.cells #[.int .i64 e.t, .int .i64 e.s, .int .i64 e.q, .int .i64 e.d, .int .i64 e.k, .int .i64 e.v, .int .i64 e.g] 25)).heap.size := by simp
  clear hp3 hb3
  obtain ⟨f0, f1, f2, f3, f4, f5, f6⟩ := HE3.out.lits
  go_wp2_with fail
  generalize w3.alloc (.cells #[.int .i64 e.t, .int .i64 e.s, .int .i64 e.q, .int .i64 e.d, .int .i64 e.k, .int .i64 e.v, .int .i64 e.g] 25) = V at *
  clear f0 f1 f2 f3 f4 f5 f6
  refine (pushAll_full w2.heap.size P v l (some ⟨w3.heap.size, 0, none⟩) 1 [e] V (by simp) (by omega) HPX.out (by omega) (by simp; omega)).mono ?_
  rintro r w4 ⟨rfl, hp4, ht4⟩
  have HP4 : Hid (Pl w4 w2.heap.size P v l) := hp4
  have HB4 : Hid (Below w.heap.size w w4) := HB2.out.trans ((HBX.out.trans (ht4.mono (by omega))).mono HB2.out.size)
  clear hp4 ht4
  go_wp2_with fail
  refine (events_any w2.heap.size P v l _ (by omega) HP4.out).mono ?_
  rintro r w5 ⟨y, rfl, hy, hb5⟩
  have HY : Hid (OwnR w4.heap.size w5 y l) := hy
  have HB5 : Hid (Below w.heap.size w w5) := HB4.out.trans (hb5.mono HB4.out.size)
  clear hy hb5
  go_wp2
  go_ret2
  exact ⟨ans_ofR HB4.out HB4.out.size HY.out, HB5.out⟩
set_option maxRecDepth 100000 in
set_option maxHeartbeats 4000000 in
theorem gPush_tag (a : Option Addr) (cap : Nat) (l : List Ev) (e : Ev) (w : World) (hl : l.length ≤ 1048576) (hR : Src w (.slice a l.length cap) l) (hw0 : 0 < w.heap.size) (hg : GoodH l) (he : e.ok = true) (k : Nat) (hk : FirstAt l e.g k) (hf : l.length < 2000) :
    Calls Try.prog 15 #[.slice a l.length cap, .agg #[.int .i64 e.t, .int .i64 e.s, .int .i64 e.q, .int .i64 e.d, .int .i64 e.k, .int .i64 e.v, .int .i64 e.g]] w fun r w' => AnswersR w.heap.size l false r w' ∧ Below w.heap.size w w' := by
  have hB0 : Below w.heap.size w (w.alloc (.cells #[.int .i64 e.t, .int .i64 e.s, .int .i64 e.q, .int .i64 e.d, .int .i64 e.k, .int .i64 e.v, .int .i64 e.g] 25)) := (Below.refl _ w).alloc (Nat.le_refl _) _
  have HR : Hid (Src (w.alloc (.cells #[.int .i64 e.t, .int .i64 e.s, .int .i64 e.q, .int .i64 e.d, .int .i64 e.k, .int .i64 e.v, .int .i64 e.g] 25)) (.slice a l.length cap) l) := hR.below hB0
  have HB0 : Hid (Below w.heap.size w (w.alloc (.cells #[.int .i64 e.t, .int .i64 e.s, .int .i64 e.q, .int .i64 e.d, .int .i64 e.k, .int .i64 e.v, .int .i64 e.g] 25))) := hB0
  have HE0 : Hid (Ev.In (w.alloc (.cells #[.int .i64 e.t, .int .i64 e.s, .int .i64 e.q, .int .i64 e.d, .int .i64 e.k, .int .i64 e.v, .int .i64 e.g] 25)) w.heap.size 0 e) := newE w e
  have hs0 : w.heap.size < (w.alloc (.cells #[.int .i64 e.t, .int .i64 e.s, .int .i64 e.q, .int .i64 e.d, .int .i64 e.k, .int .i64 e.v, .int .i64 e.g] 25)).heap.size := by simp
  clear hR hB0
  have HG : Hid (GoodH l) := hg
  have HEO : Hid (e.ok = true) := he
  have HK : Hid (FirstAt l e.g k) := hk
  have hk1 : (0 : Int) ≤ (k : Int) := by omega
  have hk2 : decide ((0 : Int) ≤ (k : Int)) = true := by simp
  clear hg he hk
  go_enter Try.func15, Try.ntmps15
  go_wp2_with fail
  generalize w.alloc (.cells #[.int .i64 e.t, .int .i64 e.s, .int .i64 e.q, .int .i64 e.d, .int .i64 e.k, .int .i64 e.v, .int .i64 e.g] 25) = W at *
  refine (iHeap_src _ _ l _ hl HR.out (by first | omega | (simp; done) | (have h9 := HB0.out.size; omega) | (have h9 := HB1.out.size; omega))).mono ?_
  rintro r w1 ⟨⟨bb, rfl, hs⟩, hb1⟩
  have hbb : bb = true := hs.2 HG.out
  subst hbb
  clear hs
  have HB1 : Hid (Below w.heap.size w w1) := HB0.out.trans (hb1.mono (Nat.le_of_lt hs0))
  have HR1 : Hid (Src w1 (.slice a l.length cap) l) := HR.out.below hb1
  have HE1 : Hid (Ev.In w1 w.heap.size 0 e) := HE0.out.below hb1 hs0
  have hs1 : w.heap.size < w1.heap.size := Nat.lt_of_lt_of_le hs0 hb1.size
  clear hb1 HR HE0
  obtain ⟨f0, f1, f2, f3, f4, f5, f6⟩ := HE1.out.lits
  go_wp2_with fail
  refine (iOk_ev e true HEO.out _).mono ?_
  rintro r w2 ⟨rfl, hb2⟩
  clear f0 f1 f2 f3 f4 f5 f6
  have HB2 : Hid (Below w.heap.size w w2) := HB1.out.trans (hb2.mono HB1.out.size)
  have HR2 : Hid (Src w2 (.slice a l.length cap) l) := HR1.out.below hb2
  have HE2 : Hid (Ev.In w2 w.heap.size 0 e) := HE1.out.below hb2 hs1
  have hs2 : w.heap.size < w2.heap.size := Nat.lt_of_lt_of_le hs1 hb2.size
  clear hb2 HR1 HE1 HB1
  have hme := fun w P => m_events P w
  go_wp2_with fail
  refine (pileOf_any _ l _ (by omega) HR2.out).mono ?_
  rintro r w3 ⟨P, v, rfl, hp3, hb3⟩
  have HP3 : Hid (Pl w3 w2.heap.size P v l) := hp3
  have HB3 : Hid (Below w2.heap.size w2 w3) := hb3
  have HE3 : Hid (Ev.In w3 w.heap.size 0 e) := HE2.out.below hb3 hs2
  have hs3 : w.heap.size < w3.heap.size := Nat.lt_of_lt_of_le hs2 hb3.size
  have HPX : Hid (Pl (w3.alloc (.cells #[.int .i64 e.t, .int .i64 e.s, .int .i64 e.q, .int .i64 e.d, .int .i64 e.k, .int .i64 e.v, .int .i64 e.g] 25)) w2.heap.size P v l) := hp3.alloc _
  have HBX : Hid (Below w2.heap.size w2 (w3.alloc (.cells #[.int .i64 e.t, .int .i64 e.s, .int .i64 e.q, .int .i64 e.d, .int .i64 e.k, .int .i64 e.v, .int .i64 e.g] 25))) := hb3.alloc hb3.size _
  have HEX : Hid (EvsAt (w3.alloc (.cells #[.int .i64 e.t, .int .i64 e.s, .int .i64 e.q, .int .i64 e.d, .int .i64 e.k, .int .i64 e.v, .int .i64 e.g] 25)) w3.heap.size 0 [e]) := ⟨by simp, fun i hi => by
    have h0 : i = 0 := by simp at hi; omega
    subst h0
    exact newE w3 e⟩
  have HLO : Hid (P < w3.heap.size ∧ w2.heap.size ≤ P ∧ (∀ k, v.ownBlock = some k → w2.heap.size ≤ k ∧ k < w3.heap.size)) := ⟨hp3.box.lt, hp3.low, fun k e => OwnR.block hp3.row e⟩
  have hz3 : w2.heap.size ≤ w3.heap.size := hb3.size
  have hzX : w3.heap.size < (w3.alloc (.cells #[.int .i64 e.t, .int .i64 e.s, .int .i64 e.q, .int .i64 e.d, .int .i64 e.k, .int .i64 e.v, .int .i64 e.g] 25)).heap.size := by simp
  clear hp3 hb3
  obtain ⟨f0, f1, f2, f3, f4, f5, f6⟩ := HE3.out.lits
  go_wp2_with fail
  generalize w3.alloc (.cells #[.int .i64 e.t, .int .i64 e.s, .int .i64 e.q, .int .i64 e.d, .int .i64 e.k, .int .i64 e.v, .int .i64 e.g] 25) = V at *
  clear f0 f1 f2 f3 f4 f5 f6
  refine (pushAll_dup w2.heap.size P v l (some ⟨w3.heap.size, 0, none⟩) 1 w3.heap.size [e] V k rfl (by omega) HPX.out (.inr ⟨0, rfl, HEX.out⟩) HEX.out.1 (by simp; omega) HG.out.oks (fun i hi => (HG.out.2 i hi).2.2) HEO.out HK.out).mono ?_
  rintro r w4 ⟨rfl, hp4, ht4⟩
  have HP4 : Hid (Pl w4 w2.heap.size P v l) := hp4
  have HB4 : Hid (Below w.heap.size w w4) := HB2.out.trans ((HBX.out.trans (ht4.mono (by omega))).mono HB2.out.size)
  clear hp4 ht4
  go_wp2_with fail
  refine (events_any w2.heap.size P v l _ (by omega) HP4.out).mono ?_
  rintro r w5 ⟨y, rfl, hy, hb5⟩
  have HY : Hid (OwnR w4.heap.size w5 y l) := hy
  have HB5 : Hid (Below w.heap.size w w5) := HB4.out.trans (hb5.mono HB4.out.size)
  clear hy hb5
  go_wp2
  go_ret2
  exact ⟨ans_ofR HB4.out HB4.out.size HY.out, HB5.out⟩
set_option maxRecDepth 100000 in
set_option maxHeartbeats 4000000 in
theorem gPush_good (a : Option Addr) (cap : Nat) (l : List Ev) (e : Ev) (w : World) (hl : l.length ≤ 1048576) (hR : Src w (.slice a l.length cap) l) (hw0 : 0 < w.heap.size) (hg : GoodH l) (he : e.ok = true) (hk : NoTag l e.g) (hf : l.length < 2000) :
    Calls Try.prog 15 #[.slice a l.length cap, .agg #[.int .i64 e.t, .int .i64 e.s, .int .i64 e.q, .int .i64 e.d, .int .i64 e.k, .int .i64 e.v, .int .i64 e.g]] w fun r w' => AnswersR w.heap.size (pushL l e) true r w' ∧ Below w.heap.size w w' := by
  have hB0 : Below w.heap.size w (w.alloc (.cells #[.int .i64 e.t, .int .i64 e.s, .int .i64 e.q, .int .i64 e.d, .int .i64 e.k, .int .i64 e.v, .int .i64 e.g] 25)) := (Below.refl _ w).alloc (Nat.le_refl _) _
  have HR : Hid (Src (w.alloc (.cells #[.int .i64 e.t, .int .i64 e.s, .int .i64 e.q, .int .i64 e.d, .int .i64 e.k, .int .i64 e.v, .int .i64 e.g] 25)) (.slice a l.length cap) l) := hR.below hB0
  have HB0 : Hid (Below w.heap.size w (w.alloc (.cells #[.int .i64 e.t, .int .i64 e.s, .int .i64 e.q, .int .i64 e.d, .int .i64 e.k, .int .i64 e.v, .int .i64 e.g] 25))) := hB0
  have HE0 : Hid (Ev.In (w.alloc (.cells #[.int .i64 e.t, .int .i64 e.s, .int .i64 e.q, .int .i64 e.d, .int .i64 e.k, .int .i64 e.v, .int .i64 e.g] 25)) w.heap.size 0 e) := newE w e
  have hs0 : w.heap.size < (w.alloc (.cells #[.int .i64 e.t, .int .i64 e.s, .int .i64 e.q, .int .i64 e.d, .int .i64 e.k, .int .i64 e.v, .int .i64 e.g] 25)).heap.size := by simp
  clear hR hB0
  have HG : Hid (GoodH l) := hg
  have HEO : Hid (e.ok = true) := he
  have HK : Hid (NoTag l e.g) := hk
  have hf1 : ¬ ((2000 : Int) ≤ (l.length : Int)) := by omega
  have hf2 : ¬ (2000 ≤ l.length) := by omega
  clear hg he hk
  go_enter Try.func15, Try.ntmps15
  go_wp2_with fail
  generalize w.alloc (.cells #[.int .i64 e.t, .int .i64 e.s, .int .i64 e.q, .int .i64 e.d, .int .i64 e.k, .int .i64 e.v, .int .i64 e.g] 25) = W at *
  refine (iHeap_src _ _ l _ hl HR.out (by first | omega | (simp; done) | (have h9 := HB0.out.size; omega) | (have h9 := HB1.out.size; omega))).mono ?_
  rintro r w1 ⟨⟨bb, rfl, hs⟩, hb1⟩
  have hbb : bb = true := hs.2 HG.out
  subst hbb
  clear hs
  have HB1 : Hid (Below w.heap.size w w1) := HB0.out.trans (hb1.mono (Nat.le_of_lt hs0))
  have HR1 : Hid (Src w1 (.slice a l.length cap) l) := HR.out.below hb1
  have HE1 : Hid (Ev.In w1 w.heap.size 0 e) := HE0.out.below hb1 hs0
  have hs1 : w.heap.size < w1.heap.size := Nat.lt_of_lt_of_le hs0 hb1.size
  clear hb1 HR HE0
  obtain ⟨f0, f1, f2, f3, f4, f5, f6⟩ := HE1.out.lits
  go_wp2_with fail
  refine (iOk_ev e true HEO.out _).mono ?_
  rintro r w2 ⟨rfl, hb2⟩
  clear f0 f1 f2 f3 f4 f5 f6
  have HB2 : Hid (Below w.heap.size w w2) := HB1.out.trans (hb2.mono HB1.out.size)
  have HR2 : Hid (Src w2 (.slice a l.length cap) l) := HR1.out.below hb2
  have HE2 : Hid (Ev.In w2 w.heap.size 0 e) := HE1.out.below hb2 hs1
  have hs2 : w.heap.size < w2.heap.size := Nat.lt_of_lt_of_le hs1 hb2.size
  clear hb2 HR1 HE1 HB1
  have hme := fun w P => m_events P w
  go_wp2_with fail
  refine (pileOf_any _ l _ (by omega) HR2.out).mono ?_
  rintro r w3 ⟨P, v, rfl, hp3, hb3⟩
  have HP3 : Hid (Pl w3 w2.heap.size P v l) := hp3
  have HB3 : Hid (Below w2.heap.size w2 w3) := hb3
  have HE3 : Hid (Ev.In w3 w.heap.size 0 e) := HE2.out.below hb3 hs2
  have hs3 : w.heap.size < w3.heap.size := Nat.lt_of_lt_of_le hs2 hb3.size
  have HPX : Hid (Pl (w3.alloc (.cells #[.int .i64 e.t, .int .i64 e.s, .int .i64 e.q, .int .i64 e.d, .int .i64 e.k, .int .i64 e.v, .int .i64 e.g] 25)) w2.heap.size P v l) := hp3.alloc _
  have HBX : Hid (Below w2.heap.size w2 (w3.alloc (.cells #[.int .i64 e.t, .int .i64 e.s, .int .i64 e.q, .int .i64 e.d, .int .i64 e.k, .int .i64 e.v, .int .i64 e.g] 25))) := hb3.alloc hb3.size _
  have HEX : Hid (EvsAt (w3.alloc (.cells #[.int .i64 e.t, .int .i64 e.s, .int .i64 e.q, .int .i64 e.d, .int .i64 e.k, .int .i64 e.v, .int .i64 e.g] 25)) w3.heap.size 0 [e]) := ⟨by simp, fun i hi => by
    have h0 : i = 0 := by simp at hi; omega
    subst h0
    exact newE w3 e⟩
  have HLO : Hid (P < w3.heap.size ∧ w2.heap.size ≤ P ∧ (∀ k, v.ownBlock = some k → w2.heap.size ≤ k ∧ k < w3.heap.size)) := ⟨hp3.box.lt, hp3.low, fun k e => OwnR.block hp3.row e⟩
  have hz3 : w2.heap.size ≤ w3.heap.size := hb3.size
  have hzX : w3.heap.size < (w3.alloc (.cells #[.int .i64 e.t, .int .i64 e.s, .int .i64 e.q, .int .i64 e.d, .int .i64 e.k, .int .i64 e.v, .int .i64 e.g] 25)).heap.size := by simp
  clear hp3 hb3
  obtain ⟨f0, f1, f2, f3, f4, f5, f6⟩ := HE3.out.lits
  go_wp2_with fail
  generalize w3.alloc (.cells #[.int .i64 e.t, .int .i64 e.s, .int .i64 e.q, .int .i64 e.d, .int .i64 e.k, .int .i64 e.v, .int .i64 e.g] 25) = V at *
  clear f0 f1 f2 f3 f4 f5 f6
  refine (pushAll_ok w2.heap.size P v l (some ⟨w3.heap.size, 0, none⟩) 1 w3.heap.size [e] V (by simp) (by omega) HPX.out (.inr ⟨0, rfl, HEX.out⟩) HEX.out.1 (by have := HLO.out.1; omega) (fun e9 => by have := (HLO.out.2.2 _ e9).2; omega) (by simp; omega) HG.out.oks (fun i hi => by have h0 : i = 0 := (by simp at hi; omega); subst h0; exact HEO.out) (fun i hi => by have h0 : i = 0 := (by simp at hi; omega); subst h0; exact HK.out)).mono ?_
  rintro r w4 ⟨rfl, ⟨v4, hp4, _⟩, ht4⟩
  have HP4 : Hid (Pl w4 w2.heap.size P v4 (pushL l e)) := hp4
  have HB4 : Hid (Below w.heap.size w w4) := HB2.out.trans ((HBX.out.trans (ht4.to_below (fun k h => by rcases h with rfl | h; exact HLO.out.2.1; exact (HLO.out.2.2 k h).1) (by omega))).mono HB2.out.size)
  clear hp4 ht4
  go_wp2_with fail
  refine (events_any w2.heap.size P v4 (pushL l e) _ (by rw [pushL_length]; omega) HP4.out).mono ?_
  rintro r w5 ⟨y, rfl, hy, hb5⟩
  have HY : Hid (OwnR w4.heap.size w5 y (pushL l e)) := hy
  have HB5 : Hid (Below w.heap.size w w5) := HB4.out.trans (hb5.mono HB4.out.size)
  clear hy hb5
  go_wp2
  go_ret2
  exact ⟨ans_ofR HB4.out HB4.out.size HY.out, HB5.out⟩
end Go.Proofs.Yteecpandpkicmaa
