/- The program's Insert, where the event is inserted. -/
import Derived.Test.YteecpandpkicmaaSortsLInsI
namespace Go.Proofs.Yteecpandpkicmaa
open Go.RowKit Go.Maps Go.WideShapes
theorem cell_new_at (w : World) (C : Array Value) (T : TypeId) (i : Nat) : (w.alloc (.cells C T)).drew.cell? ⟨w.heap.size, i, none⟩ = C[i]? := by
  have h : (w.alloc (.cells C T)).drew.heap[w.heap.size]? = some (.cells C T) := (MapKept.heap_alloc w (.cells C T)).1
  generalize (w.alloc (.cells C T)).drew = W at h ⊢
  simp [World.cell?, h]
theorem concat3 (B : Nat) (p1 p2 p3 : Part) (w : World) (h1 : p1.l.length + (p2.l.length + p3.l.length) ≤ 4194304) (hP : PartsAt w B [p1, p2, p3]) :
    Calls Try.prog 33 #[.slice (some ⟨B, 0, none⟩) 3 3] w fun e w' => ∃ x, e = .returned x ∧ OwnEvs w.heap.size w' x (p1.l ++ (p2.l ++ p3.l)) ∧ Below w.heap.size w w' := by
  have h := concat_any B [p1, p2, p3] w (by simp) (by simpa [catTo, partAt, Nat.add_assoc] using h1) hP
  simpa [catTo, partAt, List.append_assoc] using h
theorem ecmp_ok {a b : Ev} (ha : a.ok = true) (hb : b.ok = true) : a.ecmp b = a.cmp b := by
  unfold Ev.ecmp Ev.cmp ecmp
  rw [if_pos ⟨ha, hb⟩]
theorem insAt_of_cut {l : List Ev} (hg : GoodQ l) {e : Ev} (he : e.ok = true) {i : Nat} (h : CutAt l e i) : InsAt l e i := by
  refine ⟨h.1, fun j hj => ?_, fun hi => ?_⟩
  · by_cases hc : (evAt l j).cmp e < 0
    · exact hc
    · exfalso
      have h1 := goodQ_up hg hc (i - 1 - j) (by have := h.1; omega)
      rw [show j + (i - 1 - j) = i - 1 from by omega] at h1
      rcases h.2.1 with h2 | h2
      · omega
      · rw [ecmp_ok (hg.2 (i - 1) (by have := h.1; omega)).1 he] at h2
        exact h1 h2
  · have := h.2.2 hi
    rw [ecmp_ok (hg.2 i hi).1 he] at this
    exact this
/- The list with e in its place. -/
def Inserted (B : Nat) (l : List Ev) (e : Ev) (r : Ending) (w' : World) : Prop := ∃ k x, r = .returned (.tuple #[x, .bool true]) ∧ InsAt l e k ∧ OwnEvs B w' x (l.take k ++ e :: l.drop k)
set_option maxHeartbeats 8000000 in
theorem iInsert_yes (b off cap : Nat) (l : List Ev) (e : Ev) (w : World) (hcap : l.length ≤ cap) (hl : l.length ≤ 1048576) (hI : EvsAt w b off l) (hg : GoodQ l) (hk : e.ok = true) (hno : NoTag l e.g) (hfull : l.length ≠ 2000) :
    Calls Try.prog 7 #[.slice (some ⟨b, off, none⟩) l.length cap, e.val] w fun r w' => Inserted w.heap.size l e r w' ∧ Below w.heap.size w w' := by
  have HG : Hid (GoodQ l) := hg
  have HK : Hid (e.ok = true) := hk
  have hhas : Maps.has (placesD (H := Unit) l (List.finRange l.length)) (keyL e.g) = false := has_no (fun i hi => okB_tag (hg.2 i hi).1) (okB_tag hk) hno
  have hfi : ((l.length : Int) == 2000) = false := beq_eq_false_iff_ne.2 (by omega)
  clear hg hk hno hfull
  have hB0 : Below w.heap.size w (w.alloc (.cells #[.int .i64 e.t, .int .i64 e.s, .int .i64 e.q, .int .i64 e.d, .int .i64 e.k, .int .i64 e.v, .int .i64 e.g] 25)) := (Below.refl _ w).alloc (Nat.le_refl _) _
  have HI : Hid (EvsAt (w.alloc (.cells #[.int .i64 e.t, .int .i64 e.s, .int .i64 e.q, .int .i64 e.d, .int .i64 e.k, .int .i64 e.v, .int .i64 e.g] 25)) b off l) := hI.below hB0 hI.1
  have hb := hI.1
  clear hI
  go_enter Try.func7, Try.ntmps7
  go_wp2_with fail
  refine (iQueue_parts _ _ b l _ hl (.inr ⟨off, rfl, HI.out⟩) HI.out.1).mono ?_
  rintro r w1 ⟨⟨bb, rfl, hs⟩, hb1⟩
  have HE1 : Hid (Ev.In w1 w.heap.size 0 e) := (EvAt.new w 25 e.t e.s e.q e.d e.k e.v e.g).below hb1 (by simp)
  have HB1 : Hid (Below w.heap.size w w1) := hB0.trans (hb1.mono (by simp))
  have HI1 : Hid (EvsAt w1 b off l) := HI.out.below hb1 (by simp; omega)
  have hz1 : w.heap.size < w1.heap.size := by have := hb1.size; simp at this; omega
  have hbb : bb = true := hs.2 HG.out
  subst hbb
  clear hs hb1 hB0 HI
  obtain ⟨f0, f1, f2, f3, f4, f5, f6⟩ := HE1.out.lits
  go_wp2_with fail
  refine (iOk_ev e true HK.out _).mono ?_
  rintro r w2 ⟨rfl, hb2⟩
  have HE2 : Hid (Ev.In w2 w.heap.size 0 e) := HE1.out.below hb2 hz1
  have HB2 : Hid (Below w.heap.size w w2) := HB1.out.trans (hb2.mono HB1.out.size)
  have HI2 : Hid (EvsAt w2 b off l) := HI1.out.below hb2 HI1.out.1
  have hz2 : w.heap.size < w2.heap.size := by have := hb2.size; omega
  clear hb2 HE1 HB1 HI1 hz1 f0 f1 f2 f3 f4 f5 f6
  obtain ⟨f0, f1, f2, f3, f4, f5, f6⟩ := HE2.out.lits
  clear f0 f1 f2 f3 f4 f5
  have HI2d : Hid (EvsAt w2.drew b off l) := HI2.out.below ((Below.refl _ w2).drew) HI2.out.1
  go_wp2_with fail
  go_region_with (first
    | (go_at_call 29; refine (places_any (H := Unit) _ _ b l _ hl (.inr ⟨off, rfl, HI2d.out⟩) HI2d.out.1 (fun i hi => okB_tag (HG.out.2 i hi).1)).mono ?_; rintro r w3 ⟨rfl, hown3, hb3⟩; have HO3 : Hid (w3.ownsMap Try.prog 25 (plainElem (H := Unit) Try.prog 3) w2.heap.size l.length (placesD l (List.finRange l.length))) := hown3; have hz3 : w2.heap.size < w3.heap.size := (by obtain ⟨es, ck, h1, _⟩ := hown3; exact (Array.getElem?_eq_some_iff.1 h1).1); have f6' : w3.cell? ⟨w.heap.size, 6, none⟩ = some (.int .i64 e.g) := (hb3.cell (p := ⟨w.heap.size, 6, none⟩) hz2).trans f6; have HB3 : Hid (Below w2.heap.size w2 w3) := (Below.refl _ w2).drew.trans hb3; clear hown3 hb3)
    | (go_at_call 30; refine (tagKey_any e.g _).mono ?_; rintro r w4 ⟨rfl, hb4⟩; have HB4 : Hid (Below w2.heap.size w2 w4) := HB3.out.trans (hb4.mono HB3.out.size); obtain ⟨v4, ps4, hrun4, hv4⟩ := (ownsMap_below HO3.out hb4 hz3).look_ok keyed25 Try.underlying51 (Try.zeroValue3 _) (plainElem_int Try.underlying3 (by decide)) (keyOf_tag e.g (okB_tag HK.out)); obtain ⟨c4, rfl, hc4, hwc4⟩ := plainElem_int_inv Try.underlying3 hv4; rw [hhas] at hrun4; clear hb4 hv4 hc4 hwc4))
  all_goals
    have HI4 : Hid (EvsAt w4 b off l) := HI2.out.below HB4.out HI2.out.1
    have HE4 : Hid (Ev.In w4 w.heap.size 0 e) := HE2.out.below HB4.out hz2
    have HBw4 : Hid (Below w.heap.size w w4) := HB2.out.trans (HB4.out.mono (by omega))
    have hz4 : w.heap.size < w4.heap.size := by have := HB4.out.size; omega
    clear HB4 HO3 HB3 hrun4 hz3 f6' HI2 HE2 HB2 HI2d f6
    obtain ⟨f0, f1, f2, f3, f4, f5, f6⟩ := HE4.out.lits
    go_wp2_with fail
    refine (search_any b off _ l e _ hl HI4.out).mono ?_
    rintro r w5 ⟨⟨k, fd, rfl, hcut⟩, hb5⟩
    have HA : Hid (InsAt l e k) := insAt_of_cut HG.out HK.out hcut
    have hkn : k ≤ l.length := hcut.1
    have HI5 : Hid (EvsAt w5 b off l) := HI4.out.below hb5 HI4.out.1
    have HE5 : Hid (Ev.In w5 w.heap.size 0 e) := HE4.out.below hb5 hz4
    have HB5 : Hid (Below w.heap.size w w5) := HBw4.out.trans (hb5.mono HBw4.out.size)
    have hz5 : w.heap.size < w5.heap.size := by have := hb5.size; omega
    clear hb5 HI4 HE4 HBw4 hcut f0 f1 f2 f3 f4 f5 f6
    have hk2 : (k : Int) ≤ (l.length : Int) := by omega
    have hk7 : (k : Int) ≤ (cap : Int) := by omega
    have hk8 : (l.length : Int) ≤ (cap : Int) := by omega
    by_cases hend : cap = k
    · obtain rfl : l.length = k := by omega
      subst hend
      have HPT : Hid (PartsAt ((w5.alloc (.cells #[.int .i64 e.t, .int .i64 e.s, .int .i64 e.q, .int .i64 e.d, .int .i64 e.k, .int .i64 e.v, .int .i64 e.g] 25)).alloc (.cells #[.slice (some ⟨b, off, none⟩) l.length l.length, .slice (some ⟨w5.heap.size, 0, none⟩) 1 1, .slice (some ⟨b, off, none⟩) 0 0] 23)).drew (w5.heap.size + 1) [⟨some ⟨b, off, none⟩, l.length, l.take l.length⟩, ⟨some ⟨w5.heap.size, 0, none⟩, 1, [e]⟩, ⟨some ⟨b, off, none⟩, 0, []⟩]) := by
        have hBw : Below w5.heap.size w5 ((w5.alloc (.cells #[.int .i64 e.t, .int .i64 e.s, .int .i64 e.q, .int .i64 e.d, .int .i64 e.k, .int .i64 e.v, .int .i64 e.g] 25)).alloc (.cells #[.slice (some ⟨b, off, none⟩) l.length l.length, .slice (some ⟨w5.heap.size, 0, none⟩) 1 1, .slice (some ⟨b, off, none⟩) 0 0] 23)).drew := (((Below.refl _ w5).alloc (Nat.le_refl _) _).alloc (by simp) _).drew
        have hcell : ∀ i, (((w5.alloc (.cells #[.int .i64 e.t, .int .i64 e.s, .int .i64 e.q, .int .i64 e.d, .int .i64 e.k, .int .i64 e.v, .int .i64 e.g] 25)).alloc (.cells #[.slice (some ⟨b, off, none⟩) l.length l.length, .slice (some ⟨w5.heap.size, 0, none⟩) 1 1, .slice (some ⟨b, off, none⟩) 0 0] 23)).drew).cell? ⟨w5.heap.size + 1, i, none⟩ = (#[.slice (some ⟨b, off, none⟩) l.length l.length, .slice (some ⟨w5.heap.size, 0, none⟩) 1 1, .slice (some ⟨b, off, none⟩) 0 0] : Array Value)[i]? := fun i => by
          have h := cell_new_at (w5.alloc (.cells #[.int .i64 e.t, .int .i64 e.s, .int .i64 e.q, .int .i64 e.d, .int .i64 e.k, .int .i64 e.v, .int .i64 e.g] 25)) #[.slice (some ⟨b, off, none⟩) l.length l.length, .slice (some ⟨w5.heap.size, 0, none⟩) 1 1, .slice (some ⟨b, off, none⟩) 0 0] 23 i
          rw [World.size_alloc] at h
          exact h
        have hE : Ev.In ((w5.alloc (.cells #[.int .i64 e.t, .int .i64 e.s, .int .i64 e.q, .int .i64 e.d, .int .i64 e.k, .int .i64 e.v, .int .i64 e.g] 25)).alloc (.cells #[.slice (some ⟨b, off, none⟩) l.length l.length, .slice (some ⟨w5.heap.size, 0, none⟩) 1 1, .slice (some ⟨b, off, none⟩) 0 0] 23)).drew w5.heap.size 0 e := by
          have h := (EvAt.new w5 25 e.t e.s e.q e.d e.k e.v e.g).alloc (by simp) (.cells #[.slice (some ⟨b, off, none⟩) l.length l.length, .slice (some ⟨w5.heap.size, 0, none⟩) 1 1, .slice (some ⟨b, off, none⟩) 0 0] 23)
          exact ⟨h.f0, h.f1, h.f2, h.f3, h.f4, h.f5, h.f6⟩
        refine ⟨by simp, fun i hi => ?_⟩
        have h3 : i = 0 ∨ i = 1 ∨ i = 2 := by simp at hi; omega
        rcases h3 with rfl | rfl | rfl
        · exact ⟨by rw [hcell]; simp [partAt], .inr ⟨b, off, rfl, .inr ((HI5.out.take l.length).below hBw HI5.out.1)⟩⟩
        · exact ⟨by rw [hcell]; simp [partAt], .inr ⟨w5.heap.size, 0, rfl, .inr ⟨by simp; omega, fun i hi => by
            have h0 : i = 0 := by simpa [partAt] using hi
            subst h0
            exact hE⟩⟩⟩
        · exact ⟨by rw [hcell]; simp [partAt], .inr ⟨b, off, rfl, .inl rfl⟩⟩
      obtain ⟨f0, f1, f2, f3, f4, f5, f6⟩ := HE5.out.lits
      go_wp2_with fail
      go_region_with (go_at_call 33; refine (concat3 (w5.heap.size + 1) ⟨some ⟨b, off, none⟩, l.length, l.take l.length⟩ ⟨some ⟨w5.heap.size, 0, none⟩, 1, [e]⟩ ⟨some ⟨b, off, none⟩, 0, []⟩ _ ?_ HPT.out).mono ?_; (simp; omega); rintro r w6 ⟨x, rfl, hx6, hb6⟩)
      all_goals
        have HX6 : Hid (OwnEvs w.heap.size w6 x (l.take l.length ++ ([e] ++ []))) := hx6.mono (by simp; omega)
        have HB6 : Hid (Below w.heap.size w w6) := ((HB5.out.alloc (by omega) (.cells #[.int .i64 e.t, .int .i64 e.s, .int .i64 e.q, .int .i64 e.d, .int .i64 e.k, .int .i64 e.v, .int .i64 e.g] 25)).alloc (by simp; omega) (.cells #[.slice (some ⟨b, off, none⟩) l.length l.length, .slice (some ⟨w5.heap.size, 0, none⟩) 1 1, .slice (some ⟨b, off, none⟩) 0 0] 23)).drew.trans (hb6.mono (by simp; omega))
        clear hx6 hb6
        go_wp2
        go_ret2
        exact ⟨⟨l.length, x, rfl, HA.out, by have := HX6.out; simpa using this⟩, HB6.out⟩
    · have HPT : Hid (PartsAt ((w5.alloc (.cells #[.int .i64 e.t, .int .i64 e.s, .int .i64 e.q, .int .i64 e.d, .int .i64 e.k, .int .i64 e.v, .int .i64 e.g] 25)).alloc (.cells #[.slice (some ⟨b, off, none⟩) k cap, .slice (some ⟨w5.heap.size, 0, none⟩) 1 1, .slice (some ⟨b, off + k * 7, none⟩) (l.length - k) (cap - k)] 23)).drew (w5.heap.size + 1) [⟨some ⟨b, off, none⟩, cap, l.take k⟩, ⟨some ⟨w5.heap.size, 0, none⟩, 1, [e]⟩, ⟨some ⟨b, off + k * 7, none⟩, cap - k, l.drop k⟩]) := by
        have hBw : Below w5.heap.size w5 ((w5.alloc (.cells #[.int .i64 e.t, .int .i64 e.s, .int .i64 e.q, .int .i64 e.d, .int .i64 e.k, .int .i64 e.v, .int .i64 e.g] 25)).alloc (.cells #[.slice (some ⟨b, off, none⟩) k cap, .slice (some ⟨w5.heap.size, 0, none⟩) 1 1, .slice (some ⟨b, off + k * 7, none⟩) (l.length - k) (cap - k)] 23)).drew := (((Below.refl _ w5).alloc (Nat.le_refl _) _).alloc (by simp) _).drew
        have hcell : ∀ i, (((w5.alloc (.cells #[.int .i64 e.t, .int .i64 e.s, .int .i64 e.q, .int .i64 e.d, .int .i64 e.k, .int .i64 e.v, .int .i64 e.g] 25)).alloc (.cells #[.slice (some ⟨b, off, none⟩) k cap, .slice (some ⟨w5.heap.size, 0, none⟩) 1 1, .slice (some ⟨b, off + k * 7, none⟩) (l.length - k) (cap - k)] 23)).drew).cell? ⟨w5.heap.size + 1, i, none⟩ = (#[.slice (some ⟨b, off, none⟩) k cap, .slice (some ⟨w5.heap.size, 0, none⟩) 1 1, .slice (some ⟨b, off + k * 7, none⟩) (l.length - k) (cap - k)] : Array Value)[i]? := fun i => by
          have h := cell_new_at (w5.alloc (.cells #[.int .i64 e.t, .int .i64 e.s, .int .i64 e.q, .int .i64 e.d, .int .i64 e.k, .int .i64 e.v, .int .i64 e.g] 25)) #[.slice (some ⟨b, off, none⟩) k cap, .slice (some ⟨w5.heap.size, 0, none⟩) 1 1, .slice (some ⟨b, off + k * 7, none⟩) (l.length - k) (cap - k)] 23 i
          rw [World.size_alloc] at h
          exact h
        have hE : Ev.In ((w5.alloc (.cells #[.int .i64 e.t, .int .i64 e.s, .int .i64 e.q, .int .i64 e.d, .int .i64 e.k, .int .i64 e.v, .int .i64 e.g] 25)).alloc (.cells #[.slice (some ⟨b, off, none⟩) k cap, .slice (some ⟨w5.heap.size, 0, none⟩) 1 1, .slice (some ⟨b, off + k * 7, none⟩) (l.length - k) (cap - k)] 23)).drew w5.heap.size 0 e := by
          have h := (EvAt.new w5 25 e.t e.s e.q e.d e.k e.v e.g).alloc (by simp) (.cells #[.slice (some ⟨b, off, none⟩) k cap, .slice (some ⟨w5.heap.size, 0, none⟩) 1 1, .slice (some ⟨b, off + k * 7, none⟩) (l.length - k) (cap - k)] 23)
          exact ⟨h.f0, h.f1, h.f2, h.f3, h.f4, h.f5, h.f6⟩
        refine ⟨by simp, fun i hi => ?_⟩
        have h3 : i = 0 ∨ i = 1 ∨ i = 2 := by simp at hi; omega
        rcases h3 with rfl | rfl | rfl
        · exact ⟨by rw [hcell]; simp [partAt, Nat.min_eq_left hkn], .inr ⟨b, off, rfl, .inr ((HI5.out.take k).below hBw HI5.out.1)⟩⟩
        · exact ⟨by rw [hcell]; simp [partAt], .inr ⟨w5.heap.size, 0, rfl, .inr ⟨by simp; omega, fun i hi => by
            have h0 : i = 0 := by simpa [partAt] using hi
            subst h0
            exact hE⟩⟩⟩
        · exact ⟨by rw [hcell]; simp [partAt], .inr ⟨b, _, rfl, .inr ((HI5.out.drop k).below hBw HI5.out.1)⟩⟩
      obtain ⟨f0, f1, f2, f3, f4, f5, f6⟩ := HE5.out.lits
      go_wp2_with fail
      go_region_with (go_at_call 33; refine (concat3 (w5.heap.size + 1) ⟨some ⟨b, off, none⟩, cap, l.take k⟩ ⟨some ⟨w5.heap.size, 0, none⟩, 1, [e]⟩ ⟨some ⟨b, off + k * 7, none⟩, cap - k, l.drop k⟩ _ ?_ HPT.out).mono ?_; (simp; omega); rintro r w6 ⟨x, rfl, hx6, hb6⟩)
      all_goals
        have HX6 : Hid (OwnEvs w.heap.size w6 x (l.take k ++ ([e] ++ l.drop k))) := hx6.mono (by simp; omega)
        have HB6 : Hid (Below w.heap.size w w6) := ((HB5.out.alloc (by omega) (.cells #[.int .i64 e.t, .int .i64 e.s, .int .i64 e.q, .int .i64 e.d, .int .i64 e.k, .int .i64 e.v, .int .i64 e.g] 25)).alloc (by simp; omega) (.cells #[.slice (some ⟨b, off, none⟩) k cap, .slice (some ⟨w5.heap.size, 0, none⟩) 1 1, .slice (some ⟨b, off + k * 7, none⟩) (l.length - k) (cap - k)] 23)).drew.trans (hb6.mono (by simp; omega))
        clear hx6 hb6
        go_wp2
        go_ret2
        exact ⟨⟨k, x, rfl, HA.out, HX6.out⟩, HB6.out⟩

end Go.Proofs.Yteecpandpkicmaa
