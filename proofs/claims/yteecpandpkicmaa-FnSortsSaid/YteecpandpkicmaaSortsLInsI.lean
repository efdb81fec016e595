/- The program's Insert, where nothing is inserted. -/
import Derived.Test.YteecpandpkicmaaSortsLBin
namespace Go.Proofs.Yteecpandpkicmaa
open Go.RowKit Go.Maps Go.WideShapes

set_option maxHeartbeats 4000000 in
theorem iInsert_bad1 (b off cap : Nat) (l : List Ev) (e : Ev) (w : World) (hl : l.length ≤ 1048576) (hI : EvsAt w b off l) (hg : ¬ GoodQ l) :
    Calls Try.prog 7 #[.slice (some ⟨b, off, none⟩) l.length cap, e.val] w fun r w' => Answers w.heap.size [] false r w' ∧ Below w.heap.size w w' := by
  have HG : Hid (¬ GoodQ l) := hg
  clear hg
  have hB0 : Below w.heap.size w (w.alloc (.cells #[.int .i64 e.t, .int .i64 e.s, .int .i64 e.q, .int .i64 e.d, .int .i64 e.k, .int .i64 e.v, .int .i64 e.g] 25)) := (Below.refl _ w).alloc (Nat.le_refl _) _
  have HI : Hid (EvsAt (w.alloc (.cells #[.int .i64 e.t, .int .i64 e.s, .int .i64 e.q, .int .i64 e.d, .int .i64 e.k, .int .i64 e.v, .int .i64 e.g] 25)) b off l) := hI.below hB0 hI.1
  have hb := hI.1
  clear hI
  go_enter Try.func7, Try.ntmps7
  go_wp2_with fail
  refine (iQueue_parts _ _ b l _ hl (.inr ⟨off, rfl, HI.out⟩) HI.out.1).mono ?_
  rintro r w1 ⟨⟨bb, rfl, hs⟩, hb1⟩
  have HE1 : Hid (Ev.In w1 w.heap.size 0 e) := (EvAt.new w 25 e.t e.s e.q e.d e.k e.v e.g).below hb1 (by simp)
  have HB1 : Hid (Below w.heap.size w w1) := hB0.trans (hb1.mono (by simp))
  have HI1 : Hid (EvsAt w1 b off l) := HI.out.below hb1 (by simp; omega)
  have hz1 : w.heap.size < w1.heap.size := by have := hb1.size; simp at this; omega
  have hbb : bb = false := by cases bb with | false => rfl | true => exact (HG.out (hs.1 rfl)).elim
  subst hbb
  clear hs hb1
  go_wp2
  go_ret2
  exact ⟨⟨_, rfl, OwnEvs.nil _ _⟩, HB1.out⟩

set_option maxHeartbeats 4000000 in
theorem iInsert_bad2 (b off cap : Nat) (l : List Ev) (e : Ev) (w : World) (hl : l.length ≤ 1048576) (hI : EvsAt w b off l) (hg : GoodQ l) (hk : e.ok = false) :
    Calls Try.prog 7 #[.slice (some ⟨b, off, none⟩) l.length cap, e.val] w fun r w' => Answers w.heap.size [] false r w' ∧ Below w.heap.size w w' := by
  have HG : Hid (GoodQ l) := hg
  have HK : Hid (e.ok = false) := hk
  clear hg hk
  have hB0 : Below w.heap.size w (w.alloc (.cells #[.int .i64 e.t, .int .i64 e.s, .int .i64 e.q, .int .i64 e.d, .int .i64 e.k, .int .i64 e.v, .int .i64 e.g] 25)) := (Below.refl _ w).alloc (Nat.le_refl _) _
  have HI : Hid (EvsAt (w.alloc (.cells #[.int .i64 e.t, .int .i64 e.s, .int .i64 e.q, .int .i64 e.d, .int .i64 e.k, .int .i64 e.v, .int .i64 e.g] 25)) b off l) := hI.below hB0 hI.1
  have hb := hI.1
  clear hI
  go_enter Try.func7, Try.ntmps7
  go_wp2_with fail
  refine (iQueue_parts _ _ b l _ hl (.inr ⟨off, rfl, HI.out⟩) HI.out.1).mono ?_
  rintro r w1 ⟨⟨bb, rfl, hs⟩, hb1⟩
  have HE1 : Hid (Ev.In w1 w.heap.size 0 e) := (EvAt.new w 25 e.t e.s e.q e.d e.k e.v e.g).below hb1 (by simp)
  have HB1 : Hid (Below w.heap.size w w1) := hB0.trans (hb1.mono (by simp))
  have HI1 : Hid (EvsAt w1 b off l) := HI.out.below hb1 (by simp; omega)
  have hz1 : w.heap.size < w1.heap.size := by have := hb1.size; simp at this; omega
  have hbb : bb = true := hs.2 HG.out
  subst hbb
  clear hs hb1 hB0 HI
  obtain ⟨f0, f1, f2, f3, f4, f5, f6⟩ := HE1.out.lits
  go_wp2_with fail
  refine (iOk_ev e false HK.out _).mono ?_
  rintro r w2 ⟨rfl, hb2⟩
  have HE2 : Hid (Ev.In w2 w.heap.size 0 e) := HE1.out.below hb2 hz1
  have HB2 : Hid (Below w.heap.size w w2) := HB1.out.trans (hb2.mono HB1.out.size)
  have HI2 : Hid (EvsAt w2 b off l) := HI1.out.below hb2 HI1.out.1
  have hz2 : w.heap.size < w2.heap.size := by have := hb2.size; omega
  clear hb2 HE1 HB1 HI1 hz1 f0 f1 f2 f3 f4 f5 f6
  go_wp2
  go_ret2
  exact ⟨⟨_, rfl, OwnEvs.nil _ _⟩, HB2.out⟩

set_option maxHeartbeats 4000000 in
theorem iInsert_dup (b off cap : Nat) (l : List Ev) (e : Ev) (w : World) (hl : l.length ≤ 1048576) (hI : EvsAt w b off l) (hg : GoodQ l) (hk : e.ok = true) (hd : ∃ k, FirstAt l e.g k) :
    Calls Try.prog 7 #[.slice (some ⟨b, off, none⟩) l.length cap, e.val] w fun r w' => Answers w.heap.size l false r w' ∧ Below w.heap.size w w' := by
  have HG : Hid (GoodQ l) := hg
  have HK : Hid (e.ok = true) := hk
  have hhas : Maps.has (placesD (H := Unit) l (List.finRange l.length)) (keyL e.g) = true := by
    obtain ⟨k, hk'⟩ := hd
    exact (has_yes (fun i hi => okB_tag (hg.2 i hi).1) (okB_tag hk) (fun i hi => (hg.2 i hi).2.2) hk').1
  clear hg hk hd
  have hB0 : Below w.heap.size w (w.alloc (.cells #[.int .i64 e.t, .int .i64 e.s, .int .i64 e.q, .int .i64 e.d, .int .i64 e.k, .int .i64 e.v, .int .i64 e.g] 25)) := (Below.refl _ w).alloc (Nat.le_refl _) _
  have HI : Hid (EvsAt (w.alloc (.cells #[.int .i64 e.t, .int .i64 e.s, .int .i64 e.q, .int .i64 e.d, .int .i64 e.k, .int .i64 e.v, .int .i64 e.g] 25)) b off l) := hI.below hB0 hI.1
  have hb := hI.1
  clear hI
  go_enter Try.func7, Try.ntmps7
  go_wp2_with fail
  refine (iQueue_parts _ _ b l _ hl (.inr ⟨off, rfl, HI.out⟩) HI.out.1).mono ?_
  rintro r w1 ⟨⟨bb, rfl, hs⟩, hb1⟩
  have HE1 : Hid (Ev.In w1 w.heap.size 0 e) := (EvAt.new w 25 e.t e.s e.q e.d e.k e.v e.g).below hb1 (by simp)
  have HB1 : Hid (Below w.heap.size w w1) := hB0.trans (hb1.mono (by simp))
  have HI1 : Hid (EvsAt w1 b off l) := HI.out.below hb1 (by simp; omega)
  have hz1 : w.heap.size < w1.heap.size := by have := hb1.size; simp at this; omega
  have hbb : bb = true := hs.2 HG.out
  subst hbb
  clear hs hb1 hB0 HI
  obtain ⟨f0, f1, f2, f3, f4, f5, f6⟩ := HE1.out.lits
  go_wp2_with fail
  refine (iOk_ev e true HK.out _).mono ?_
  rintro r w2 ⟨rfl, hb2⟩
  have HE2 : Hid (Ev.In w2 w.heap.size 0 e) := HE1.out.below hb2 hz1
  have HB2 : Hid (Below w.heap.size w w2) := HB1.out.trans (hb2.mono HB1.out.size)
  have HI2 : Hid (EvsAt w2 b off l) := HI1.out.below hb2 HI1.out.1
  have hz2 : w.heap.size < w2.heap.size := by have := hb2.size; omega
  clear hb2 HE1 HB1 HI1 hz1 f0 f1 f2 f3 f4 f5 f6
  obtain ⟨f0, f1, f2, f3, f4, f5, f6⟩ := HE2.out.lits
  clear f0 f1 f2 f3 f4 f5
  have HI2d : Hid (EvsAt w2.drew b off l) := HI2.out.below ((Below.refl _ w2).drew) HI2.out.1
  go_wp2_with fail
  go_region_with (first
    | (go_at_call 29; refine (places_any (H := Unit) _ _ b l _ hl (.inr ⟨off, rfl, HI2d.out⟩) HI2d.out.1 (fun i hi => okB_tag (HG.out.2 i hi).1)).mono ?_; rintro r w3 ⟨rfl, hown3, hb3⟩; have HO3 : Hid (w3.ownsMap Try.prog 25 (plainElem (H := Unit) Try.prog 3) w2.heap.size l.length (placesD l (List.finRange l.length))) := hown3; have hz3 : w2.heap.size < w3.heap.size := (by obtain ⟨es, ck, h1, _⟩ := hown3; exact (Array.getElem?_eq_some_iff.1 h1).1); have f6' : w3.cell? ⟨w.heap.size, 6, none⟩ = some (.int .i64 e.g) := (hb3.cell (p := ⟨w.heap.size, 6, none⟩) hz2).trans f6; have HB3 : Hid (Below w2.heap.size w2 w3) := (Below.refl _ w2).drew.trans hb3; clear hown3 hb3)
    | (go_at_call 30; refine (tagKey_any e.g _).mono ?_; rintro r w4 ⟨rfl, hb4⟩; have HB4 : Hid (Below w2.heap.size w2 w4) := HB3.out.trans (hb4.mono HB3.out.size); obtain ⟨v4, ps4, hrun4, hv4⟩ := (ownsMap_below HO3.out hb4 hz3).look_ok keyed25 Try.underlying51 (Try.zeroValue3 _) (plainElem_int Try.underlying3 (by decide)) (keyOf_tag e.g (okB_tag HK.out)); obtain ⟨c4, rfl, hc4, hwc4⟩ := plainElem_int_inv Try.underlying3 hv4; rw [hhas] at hrun4; clear hb4 hv4 hc4 hwc4))
  all_goals
    have HI4 : Hid (EvsAt w4 b off l) := HI2.out.below HB4.out HI2.out.1
    go_wp2_with fail
    refine (copyOf_any b off _ l _ hl HI4.out).mono ?_
    rintro r w5 ⟨x, rfl, hx5, hb5⟩
    have HX5 : Hid (OwnEvs w.heap.size w5 x l) := hx5.mono (by have := HB4.out.size; omega)
    have HB5 : Hid (Below w.heap.size w w5) := (HB2.out.trans (HB4.out.mono (by omega))).trans (hb5.mono (by have := HB4.out.size; omega))
    clear hx5 hb5
    go_wp2
    go_ret2
    exact ⟨⟨x, rfl, HX5.out⟩, HB5.out⟩

set_option maxHeartbeats 4000000 in
theorem iInsert_full (b off cap : Nat) (l : List Ev) (e : Ev) (w : World) (hl : l.length ≤ 1048576) (hI : EvsAt w b off l) (hg : GoodQ l) (hk : e.ok = true) (hno : NoTag l e.g) (hfull : l.length = 2000) :
    Calls Try.prog 7 #[.slice (some ⟨b, off, none⟩) l.length cap, e.val] w fun r w' => Answers w.heap.size l false r w' ∧ Below w.heap.size w w' := by
  have HG : Hid (GoodQ l) := hg
  have HK : Hid (e.ok = true) := hk
  have hhas : Maps.has (placesD (H := Unit) l (List.finRange l.length)) (keyL e.g) = false := has_no (fun i hi => okB_tag (hg.2 i hi).1) (okB_tag hk) hno
  have hfi : ((l.length : Int) == 2000) = true := by simp; omega
  have HF : Hid (l.length = 2000) := hfull
  clear hg hk hno hfull
  have hB0 : Below w.heap.size w (w.alloc (.cells #[.int .i64 e.t, .int .i64 e.s, .int .i64 e.q, .int .i64 e.d, .int .i64 e.k, .int .i64 e.v, .int .i64 e.g] 25)) := (Below.refl _ w).alloc (Nat.le_refl _) _
  have HI : Hid (EvsAt (w.alloc (.cells #[.int .i64 e.t, .int .i64 e.s, .int .i64 e.q, .int .i64 e.d, .int .i64 e.k, .int .i64 e.v, .int .i64 e.g] 25)) b off l) := hI.below hB0 hI.1
  have hb := hI.1
  clear hI
  go_enter Try.func7, Try.ntmps7
  go_wp2_with fail
  refine (iQueue_parts _ _ b l _ hl (.inr ⟨off, rfl, HI.out⟩) HI.out.1).mono ?_
  rintro r w1 ⟨⟨bb, rfl, hs⟩, hb1⟩
  have HE1 : Hid (Ev.In w1 w.heap.size 0 e) := (EvAt.new w 25 e.t e.s e.q e.d e.k e.v e.g).below hb1 (by simp)
  have HB1 : Hid (Below w.heap.size w w1) := hB0.trans (hb1.mono (by simp))
  have HI1 : Hid (EvsAt w1 b off l) := HI.out.below hb1 (by simp; omega)
  have hz1 : w.heap.size < w1.heap.size := by have := hb1.size; simp at this; omega
  have hbb : bb = true := hs.2 HG.out
  subst hbb
  clear hs hb1 hB0 HI
  obtain ⟨f0, f1, f2, f3, f4, f5, f6⟩ := HE1.out.lits
  go_wp2_with fail
  refine (iOk_ev e true HK.out _).mono ?_
  rintro r w2 ⟨rfl, hb2⟩
  have HE2 : Hid (Ev.In w2 w.heap.size 0 e) := HE1.out.below hb2 hz1
  have HB2 : Hid (Below w.heap.size w w2) := HB1.out.trans (hb2.mono HB1.out.size)
  have HI2 : Hid (EvsAt w2 b off l) := HI1.out.below hb2 HI1.out.1
  have hz2 : w.heap.size < w2.heap.size := by have := hb2.size; omega
  clear hb2 HE1 HB1 HI1 hz1 f0 f1 f2 f3 f4 f5 f6
  obtain ⟨f0, f1, f2, f3, f4, f5, f6⟩ := HE2.out.lits
  clear f0 f1 f2 f3 f4 f5
  have HI2d : Hid (EvsAt w2.drew b off l) := HI2.out.below ((Below.refl _ w2).drew) HI2.out.1
  go_wp2_with fail
  go_region_with (first
    | (go_at_call 29; refine (places_any (H := Unit) _ _ b l _ hl (.inr ⟨off, rfl, HI2d.out⟩) HI2d.out.1 (fun i hi => okB_tag (HG.out.2 i hi).1)).mono ?_; rintro r w3 ⟨rfl, hown3, hb3⟩; have HO3 : Hid (w3.ownsMap Try.prog 25 (plainElem (H := Unit) Try.prog 3) w2.heap.size l.length (placesD l (List.finRange l.length))) := hown3; have hz3 : w2.heap.size < w3.heap.size := (by obtain ⟨es, ck, h1, _⟩ := hown3; exact (Array.getElem?_eq_some_iff.1 h1).1); have f6' : w3.cell? ⟨w.heap.size, 6, none⟩ = some (.int .i64 e.g) := (hb3.cell (p := ⟨w.heap.size, 6, none⟩) hz2).trans f6; have HB3 : Hid (Below w2.heap.size w2 w3) := (Below.refl _ w2).drew.trans hb3; clear hown3 hb3)
    | (go_at_call 30; refine (tagKey_any e.g _).mono ?_; rintro r w4 ⟨rfl, hb4⟩; have HB4 : Hid (Below w2.heap.size w2 w4) := HB3.out.trans (hb4.mono HB3.out.size); obtain ⟨v4, ps4, hrun4, hv4⟩ := (ownsMap_below HO3.out hb4 hz3).look_ok keyed25 Try.underlying51 (Try.zeroValue3 _) (plainElem_int Try.underlying3 (by decide)) (keyOf_tag e.g (okB_tag HK.out)); obtain ⟨c4, rfl, hc4, hwc4⟩ := plainElem_int_inv Try.underlying3 hv4; rw [hhas] at hrun4; clear hb4 hv4 hc4 hwc4))
  all_goals
    have HI4 : Hid (EvsAt w4 b off l) := HI2.out.below HB4.out HI2.out.1
    go_wp2_with fail
    refine (copyOf_any b off _ l _ hl HI4.out).mono ?_
    rintro r w5 ⟨x, rfl, hx5, hb5⟩
    have HX5 : Hid (OwnEvs w.heap.size w5 x l) := hx5.mono (by have := HB4.out.size; omega)
    have HB5 : Hid (Below w.heap.size w w5) := (HB2.out.trans (HB4.out.mono (by omega))).trans (hb5.mono (by have := HB4.out.size; omega))
    clear hx5 hb5
    go_wp2
    go_ret2
    exact ⟨⟨x, rfl, HX5.out⟩, HB5.out⟩

end Go.Proofs.Yteecpandpkicmaa
