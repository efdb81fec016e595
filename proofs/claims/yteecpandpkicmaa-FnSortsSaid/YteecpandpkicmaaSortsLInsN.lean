/- l1insert, BinarySearchFunc and Insert where the list is nil. -/
import Derived.Test.YteecpandpkicmaaSortsLInsY
import Derived.Laws.AppendOwnNone
namespace Go.Proofs.Yteecpandpkicmaa
open Go.RowKit Go.Maps Go.WideShapes

set_option maxHeartbeats 4000000 in
theorem search_nil (e : Ev) (w : World) :
    Calls Try.prog 32 #[.slice none 0 0, e.val, .func (.func 12) #[] #[]] w fun r w' => Found [] e r ∧ Below w.heap.size w w' := by
  obtain ⟨W0, hW0⟩ : ∃ W0, w.alloc (.cells #[.int .i64 e.t, .int .i64 e.s, .int .i64 e.q, .int .i64 e.d, .int .i64 e.k, .int .i64 e.v, .int .i64 e.g] 25) = W0 := ⟨_, rfl⟩
  have HB0 : Hid (Below w.heap.size w W0) := by rw [← hW0]; exact (Below.refl _ w).alloc (Nat.le_refl _) _
  have hs0 : W0.heap.size = w.heap.size + 1 := by rw [← hW0]; simp
  go_enter Try.func32, Try.ntmps32
  go_wp2
  clear hW0
  go_loopw [9, 10] (fun i j wr => i = .int .i64 0 ∧ j = .int .i64 0 ∧ wr = W0) (fun _ _ _ => 0)
  case atStart => exact ⟨rfl, rfl, rfl⟩
  case round =>
    obtain ⟨rfl, rfl, rfl⟩ := hrel
    have hne : Nonempty (Beyond wr) := ⟨⟨wr, Below.refl _ _⟩⟩
    go_wp2_with fail
    refine wp_region_beyond (by kernel_rfl) (by kernel_rfl) ?_
    repeat (go_big_quiet_step (fail))
    refine wpQuiet_nil ?_
    rintro w2 ⟨⟨_, hb2⟩, rfl⟩
    clear hne
    go_wp2
    go_ret2
    exact ⟨⟨0, _, rfl, Nat.zero_le _, .inl rfl, fun h => by simp at h⟩, HB0.out.trans (hb2.mono (by omega))⟩

set_option maxHeartbeats 8000000 in
theorem iInsert_nil (e : Ev) (w : World) (hk : e.ok = true) :
    Calls Try.prog 7 #[.slice none 0 0, e.val] w fun r w' => Inserted w.heap.size [] e r w' ∧ Below w.heap.size w w' := by
  have HG : Hid (GoodQ []) := ⟨by simp, fun i hi => by simp at hi⟩
  have HK : Hid (e.ok = true) := hk
  have hhas : Maps.has (placesD (H := Unit) [] (List.finRange 0)) (keyL e.g) = false := has_no (fun i hi => by simp at hi) (okB_tag hk) (fun j hj => by simp at hj)
  clear hk
  have hB0 : Below w.heap.size w (w.alloc (.cells #[.int .i64 e.t, .int .i64 e.s, .int .i64 e.q, .int .i64 e.d, .int .i64 e.k, .int .i64 e.v, .int .i64 e.g] 25)) := (Below.refl _ w).alloc (Nat.le_refl _) _
  go_enter Try.func7, Try.ntmps7
  go_wp2_with fail
  refine (iQueue_parts none 0 w.heap.size [] _ (by simp) (.inl rfl) (by simp)).mono ?_
  rintro r w1 ⟨⟨bb, rfl, hs⟩, hb1⟩
  have HE1 : Hid (Ev.In w1 w.heap.size 0 e) := (EvAt.new w 25 e.t e.s e.q e.d e.k e.v e.g).below hb1 (by simp)
  have HB1 : Hid (Below w.heap.size w w1) := hB0.trans (hb1.mono (by simp))
  have hz1 : w.heap.size < w1.heap.size := by have := hb1.size; simp at this; omega
  have hbb : bb = true := hs.2 HG.out
  subst hbb
  clear hs hb1 hB0
  obtain ⟨f0, f1, f2, f3, f4, f5, f6⟩ := HE1.out.lits
  go_wp2_with fail
  refine (iOk_ev e true HK.out _).mono ?_
  rintro r w2 ⟨rfl, hb2⟩
  have HE2 : Hid (Ev.In w2 w.heap.size 0 e) := HE1.out.below hb2 hz1
  have HB2 : Hid (Below w.heap.size w w2) := HB1.out.trans (hb2.mono HB1.out.size)
  have hz2 : w.heap.size < w2.heap.size := by have := hb2.size; omega
  clear hb2 HE1 HB1 hz1 f0 f1 f2 f3 f4 f5 f6
  obtain ⟨f0, f1, f2, f3, f4, f5, f6⟩ := HE2.out.lits
  clear f0 f1 f2 f3 f4 f5
  go_wp2_with fail
  go_region_with (first
    | (go_at_call 29; refine (places_any (H := Unit) none 0 w.heap.size [] _ (by simp) (.inl rfl) (by simp; omega) (fun i hi => by simp at hi)).mono ?_; rintro r w3 ⟨rfl, hown3, hb3⟩; have HO3 : Hid (w3.ownsMap Try.prog 25 (plainElem (H := Unit) Try.prog 3) w2.heap.size 0 (placesD [] (List.finRange 0))) := hown3; have hz3 : w2.heap.size < w3.heap.size := (by obtain ⟨es, ck, h1, _⟩ := hown3; exact (Array.getElem?_eq_some_iff.1 h1).1); have f6' : w3.cell? ⟨w.heap.size, 6, none⟩ = some (.int .i64 e.g) := (hb3.cell (p := ⟨w.heap.size, 6, none⟩) hz2).trans f6; have HB3 : Hid (Below w2.heap.size w2 w3) := (Below.refl _ w2).drew.trans hb3; clear hown3 hb3)
    | (go_at_call 30; refine (tagKey_any e.g _).mono ?_; rintro r w4 ⟨rfl, hb4⟩; have HB4 : Hid (Below w2.heap.size w2 w4) := HB3.out.trans (hb4.mono HB3.out.size); obtain ⟨v4, ps4, hrun4, hv4⟩ := (ownsMap_below HO3.out hb4 hz3).look_ok keyed25 Try.underlying51 (Try.zeroValue3 _) (plainElem_int Try.underlying3 (by decide)) (keyOf_tag e.g (okB_tag HK.out)); obtain ⟨c4, rfl, hc4, hwc4⟩ := plainElem_int_inv Try.underlying3 hv4; rw [hhas] at hrun4; clear hb4 hv4 hc4 hwc4))
  all_goals
    have HE4 : Hid (Ev.In w4 w.heap.size 0 e) := HE2.out.below HB4.out hz2
    have HBw4 : Hid (Below w.heap.size w w4) := HB2.out.trans (HB4.out.mono (by omega))
    have hz4 : w.heap.size < w4.heap.size := by have := HB4.out.size; omega
    clear HB4 HO3 HB3 hrun4 hz3 f6' HE2 HB2 f6
    obtain ⟨f0, f1, f2, f3, f4, f5, f6⟩ := HE4.out.lits
    go_wp2_with fail
    refine (search_nil e _).mono ?_
    rintro r w5 ⟨⟨k, fd, rfl, hcut⟩, hb5⟩
    obtain rfl : k = 0 := by have := hcut.1; simpa using this
    have HA : Hid (InsAt [] e 0) := insAt_of_cut HG.out HK.out hcut
    have HE5 : Hid (Ev.In w5 w.heap.size 0 e) := HE4.out.below hb5 hz4
    have HB5 : Hid (Below w.heap.size w w5) := HBw4.out.trans (hb5.mono HBw4.out.size)
    have hz5 : w.heap.size < w5.heap.size := by have := hb5.size; omega
    clear hb5 HE4 HBw4 hcut f0 f1 f2 f3 f4 f5 f6
    have HPT : Hid (PartsAt ((w5.alloc (.cells #[.int .i64 e.t, .int .i64 e.s, .int .i64 e.q, .int .i64 e.d, .int .i64 e.k, .int .i64 e.v, .int .i64 e.g] 25)).alloc (.cells #[.slice none 0 0, .slice (some ⟨w5.heap.size, 0, none⟩) 1 1, .slice none 0 0] 23)).drew (w5.heap.size + 1) [⟨none, 0, []⟩, ⟨some ⟨w5.heap.size, 0, none⟩, 1, [e]⟩, ⟨none, 0, []⟩]) := by
      have hcell : ∀ i, (((w5.alloc (.cells #[.int .i64 e.t, .int .i64 e.s, .int .i64 e.q, .int .i64 e.d, .int .i64 e.k, .int .i64 e.v, .int .i64 e.g] 25)).alloc (.cells #[.slice none 0 0, .slice (some ⟨w5.heap.size, 0, none⟩) 1 1, .slice none 0 0] 23)).drew).cell? ⟨w5.heap.size + 1, i, none⟩ = (#[.slice none 0 0, .slice (some ⟨w5.heap.size, 0, none⟩) 1 1, .slice none 0 0] : Array Value)[i]? := fun i => by
        have h := cell_new_at (w5.alloc (.cells #[.int .i64 e.t, .int .i64 e.s, .int .i64 e.q, .int .i64 e.d, .int .i64 e.k, .int .i64 e.v, .int .i64 e.g] 25)) #[.slice none 0 0, .slice (some ⟨w5.heap.size, 0, none⟩) 1 1, .slice none 0 0] 23 i
        rw [World.size_alloc] at h
        exact h
      have hE : Ev.In ((w5.alloc (.cells #[.int .i64 e.t, .int .i64 e.s, .int .i64 e.q, .int .i64 e.d, .int .i64 e.k, .int .i64 e.v, .int .i64 e.g] 25)).alloc (.cells #[.slice none 0 0, .slice (some ⟨w5.heap.size, 0, none⟩) 1 1, .slice none 0 0] 23)).drew w5.heap.size 0 e := by
        have h := (EvAt.new w5 25 e.t e.s e.q e.d e.k e.v e.g).alloc (by simp) (.cells #[.slice none 0 0, .slice (some ⟨w5.heap.size, 0, none⟩) 1 1, .slice none 0 0] 23)
        exact ⟨h.f0, h.f1, h.f2, h.f3, h.f4, h.f5, h.f6⟩
      refine ⟨by simp, fun i hi => ?_⟩
      have h3 : i = 0 ∨ i = 1 ∨ i = 2 := by simp at hi; omega
      rcases h3 with rfl | rfl | rfl
      · exact ⟨by rw [hcell]; simp [partAt], .inl ⟨rfl, rfl, rfl⟩⟩
      · exact ⟨by rw [hcell]; simp [partAt], .inr ⟨w5.heap.size, 0, rfl, .inr ⟨by simp; omega, fun i hi => by
          have h0 : i = 0 := by simpa [partAt] using hi
          subst h0
          exact hE⟩⟩⟩
      · exact ⟨by rw [hcell]; simp [partAt], .inl ⟨rfl, rfl, rfl⟩⟩
    obtain ⟨f0, f1, f2, f3, f4, f5, f6⟩ := HE5.out.lits
    go_wp2_with fail
    go_region_with (go_at_call 33; refine (concat3 (w5.heap.size + 1) ⟨none, 0, []⟩ ⟨some ⟨w5.heap.size, 0, none⟩, 1, [e]⟩ ⟨none, 0, []⟩ _ (by simp) HPT.out).mono ?_; rintro r w6 ⟨x, rfl, hx6, hb6⟩)
    all_goals
      have HX6 : Hid (OwnEvs w.heap.size w6 x ([] ++ ([e] ++ []))) := hx6.mono (by simp; omega)
      have HB6 : Hid (Below w.heap.size w w6) := ((HB5.out.alloc (by omega) (.cells #[.int .i64 e.t, .int .i64 e.s, .int .i64 e.q, .int .i64 e.d, .int .i64 e.k, .int .i64 e.v, .int .i64 e.g] 25)).alloc (by simp; omega) (.cells #[.slice none 0 0, .slice (some ⟨w5.heap.size, 0, none⟩) 1 1, .slice none 0 0] 23)).drew.trans (hb6.mono (by simp; omega))
      clear hx6 hb6
      go_wp2
      go_ret2
      exact ⟨⟨0, x, rfl, HA.out, by have := HX6.out; simpa using this⟩, HB6.out⟩

set_option maxHeartbeats 4000000 in
theorem iInsert_nil_bad (e : Ev) (w : World) (hk : e.ok = false) :
    Calls Try.prog 7 #[.slice none 0 0, e.val] w fun r w' => Answers w.heap.size [] false r w' ∧ Below w.heap.size w w' := by
  have HK : Hid (e.ok = false) := hk
  have HG : Hid (GoodQ []) := ⟨by simp, fun i hi => by simp at hi⟩
  clear hk
  have hB0 : Below w.heap.size w (w.alloc (.cells #[.int .i64 e.t, .int .i64 e.s, .int .i64 e.q, .int .i64 e.d, .int .i64 e.k, .int .i64 e.v, .int .i64 e.g] 25)) := (Below.refl _ w).alloc (Nat.le_refl _) _
  go_enter Try.func7, Try.ntmps7
  go_wp2_with fail
  refine (iQueue_parts none 0 w.heap.size [] _ (by simp) (.inl rfl) (by simp)).mono ?_
  rintro r w1 ⟨⟨bb, rfl, hs⟩, hb1⟩
  have HE1 : Hid (Ev.In w1 w.heap.size 0 e) := (EvAt.new w 25 e.t e.s e.q e.d e.k e.v e.g).below hb1 (by simp)
  have HB1 : Hid (Below w.heap.size w w1) := hB0.trans (hb1.mono (by simp))
  have hz1 : w.heap.size < w1.heap.size := by have := hb1.size; simp at this; omega
  have hbb : bb = true := hs.2 HG.out
  subst hbb
  clear hs hb1 hB0
  obtain ⟨f0, f1, f2, f3, f4, f5, f6⟩ := HE1.out.lits
  go_wp2_with fail
  refine (iOk_ev e false HK.out _).mono ?_
  rintro r w2 ⟨rfl, hb2⟩
  have HB2 : Hid (Below w.heap.size w w2) := HB1.out.trans (hb2.mono HB1.out.size)
  clear hb2 HE1 HB1 hz1 f0 f1 f2 f3 f4 f5 f6
  go_wp2
  go_ret2
  exact ⟨⟨_, rfl, OwnEvs.nil _ _⟩, HB2.out⟩
end Go.Proofs.Yteecpandpkicmaa
