/- Both HeapDrop; they give the same. -/
import Derived.Test.YthklekjglocbgaaHas
import Derived.Test.YthklekjglocbgaaHeapI
import Derived.Test.YthklekjglocbgaaTakeS
import Derived.Test.YthklekjglocbgaaLibRem
namespace Go.Proofs.Ythklekjglocbgaa
open Go.RowKit Go.Maps Go.WideShapes
theorem GoodH.heap {l : List Ev} (h : GoodH l) : HeapL l := fun i h0 hi => (h.2 i hi).2.1 h0
theorem GoodH.oks {l : List Ev} (h : GoodH l) : Kept (fun e => e.ok = true) l := fun i hi => (h.2 i hi).1
theorem Pl.later {w w' : World} {B P : Nat} {v : Value} {l : List Ev} (h : Pl w B P v l) (hb : Below w.heap.size w w') : Pl w' B P v l :=
  ⟨(hb.block P h.box.lt).trans h.box, OwnR.below h.row hb, h.low⟩
theorem ans_of {B : Nat} {w w1 w' : World} {x : Value} {l : List Ev} {bb : Bool} (_hb : Below B w w1) (hB : B ≤ w1.heap.size) (hx : OwnR w1.heap.size w' x l) : Answers B l bb (.returned (.tuple #[x, .bool bb])) w' := ⟨x, rfl, (hx.mono hB).own⟩

set_option maxRecDepth 100000 in
set_option maxHeartbeats 4000000 in
theorem sDrop_bad (g : Nat) (l : List Ev) (tag : Int) (w : World) (hl : l.length ≤ 1048576) (hR : RowTo w g l.length l l.length) (hg : ¬ GoodH l) :
    Calls Try.prog 22 #[.slice (some ⟨g, 0, none⟩) l.length l.length, .int .i64 tag] w fun e w' => Answers w.heap.size [] false e w' ∧ Below w.heap.size w w' := by
  have HR : Hid (RowTo w g l.length l l.length) := hR
  have hgw : g < w.heap.size := hR.1
  clear hR
  have HG : Hid (¬ GoodH l) := hg
  clear hg
  go_enter Try.func22, Try.ntmps22
  go_wp2_with fail
  refine (sHeap_any g 0 _ l _ hl (Nat.le_refl _) (by unfold maxLen; omega) HR.out.evs).mono ?_
  rintro e w1 ⟨⟨bb, rfl, hs⟩, hb1⟩
  have hbb : bb = false := by cases bb with | false => rfl | true => exact (HG.out (hs.1 rfl)).elim
  subst hbb
  clear hs
  have HB1 : Hid (Below w.heap.size w w1) := hb1
  have HR1 : Hid (RowTo w1 g l.length l l.length) := HR.out.below hb1 hgw
  clear hb1 HR
  go_wp2
  go_ret2
  exact ⟨⟨_, rfl, OwnEvs.nil _ _⟩, HB1.out⟩
set_option maxRecDepth 100000 in
set_option maxHeartbeats 4000000 in
theorem iDrop_bad (g : Nat) (l : List Ev) (tag : Int) (w : World) (hl : l.length ≤ 1048576) (hR : RowTo w g l.length l l.length) (hg : ¬ GoodH l) :
    Calls Try.prog 23 #[.slice (some ⟨g, 0, none⟩) l.length l.length, .int .i64 tag] w fun e w' => Answers w.heap.size [] false e w' ∧ Below w.heap.size w w' := by
  have HR : Hid (RowTo w g l.length l l.length) := hR
  have hgw : g < w.heap.size := hR.1
  clear hR
  have HG : Hid (¬ GoodH l) := hg
  clear hg
  go_enter Try.func23, Try.ntmps23
  go_wp2_with fail
  refine (iHeap_any g 0 _ l _ hl HR.out.evs).mono ?_
  rintro e w1 ⟨⟨bb, rfl, hs⟩, hb1⟩
  have hbb : bb = false := by cases bb with | false => rfl | true => exact (HG.out (hs.1 rfl)).elim
  subst hbb
  clear hs
  have HB1 : Hid (Below w.heap.size w w1) := hb1
  have HR1 : Hid (RowTo w1 g l.length l l.length) := HR.out.below hb1 hgw
  clear hb1 HR
  go_wp2
  go_ret2
  exact ⟨⟨_, rfl, OwnEvs.nil _ _⟩, HB1.out⟩
set_option maxRecDepth 100000 in
set_option maxHeartbeats 4000000 in
theorem sDrop_some (g : Nat) (l : List Ev) (tag : Int) (k : Nat) (w : World) (hl : l.length ≤ 1048576) (hR : RowTo w g l.length l l.length) (hg : GoodH l) (hk : FirstAt l tag k) :
    Calls Try.prog 22 #[.slice (some ⟨g, 0, none⟩) l.length l.length, .int .i64 tag] w fun e w' => Answers w.heap.size (takeL l k) true e w' ∧ Below w.heap.size w w' := by
  have HR : Hid (RowTo w g l.length l l.length) := hR
  have hgw : g < w.heap.size := hR.1
  clear hR
  have HG : Hid (GoodH l) := hg
  have HK : Hid (FirstAt l tag k) := hk
  obtain ⟨n, hn⟩ : ∃ n, l.length = n + 1 := ⟨l.length - 1, by have := hk.1; omega⟩
  have hkn : k < n + 1 := by have := hk.1; omega
  have HN : Hid (l.length = n + 1) := hn
  clear hg hk hn
  go_enter Try.func22, Try.ntmps22
  go_wp2_with fail
  refine (sHeap_any g 0 _ l _ hl (Nat.le_refl _) (by unfold maxLen; omega) HR.out.evs).mono ?_
  rintro e w1 ⟨⟨bb, rfl, hs⟩, hb1⟩
  have hbb : bb = true := hs.2 HG.out
  subst hbb
  clear hs
  have HB1 : Hid (Below w.heap.size w w1) := hb1
  have HR1 : Hid (RowTo w1 g l.length l l.length) := HR.out.below hb1 hgw
  clear hb1 HR
  have hk1 : ¬ ((k : Int) < 0) := by omega
  go_wp2_with fail
  refine (find_some g 0 _ l tag k _ hl HR1.out.evs HK.out).mono ?_
  rintro e w2 ⟨rfl, hw⟩
  have hw' := hw.symm
  clear hw
  subst hw'
  go_wp2_with fail
  refine (take_any _ l k n _ (by omega) HN.out hkn HR1.out.src).mono ?_
  rintro e w3 ⟨y, rfl, hy, hb3⟩
  have HY : Hid (OwnR w1.heap.size w3 y (takeL l k)) := hy
  have HB3 : Hid (Below w.heap.size w w3) := HB1.out.trans (hb3.mono HB1.out.size)
  clear hy hb3
  go_wp2
  go_ret2
  exact ⟨ans_of HB1.out HB1.out.size HY.out, HB3.out⟩
set_option maxRecDepth 100000 in
set_option maxHeartbeats 4000000 in
theorem sDrop_none (g : Nat) (l : List Ev) (tag : Int) (w : World) (hl : l.length ≤ 1048576) (hR : RowTo w g l.length l l.length) (hg : GoodH l) (hk : NoTag l tag) :
    Calls Try.prog 22 #[.slice (some ⟨g, 0, none⟩) l.length l.length, .int .i64 tag] w fun e w' => Answers w.heap.size l false e w' ∧ Below w.heap.size w w' := by
  have HR : Hid (RowTo w g l.length l l.length) := hR
  have hgw : g < w.heap.size := hR.1
  clear hR
  have HG : Hid (GoodH l) := hg
  have HK : Hid (NoTag l tag) := hk
  clear hg hk
  go_enter Try.func22, Try.ntmps22
  go_wp2_with fail
  refine (sHeap_any g 0 _ l _ hl (Nat.le_refl _) (by unfold maxLen; omega) HR.out.evs).mono ?_
  rintro e w1 ⟨⟨bb, rfl, hs⟩, hb1⟩
  have hbb : bb = true := hs.2 HG.out
  subst hbb
  clear hs
  have HB1 : Hid (Below w.heap.size w w1) := hb1
  have HR1 : Hid (RowTo w1 g l.length l l.length) := HR.out.below hb1 hgw
  clear hb1 HR
  go_wp2_with fail
  refine (find_none g 0 _ l tag _ hl HR1.out.evs HK.out).mono ?_
  rintro e w2 ⟨rfl, hw⟩
  have hw' := hw.symm
  clear hw
  subst hw'
  go_wp2_with fail
  refine (own_row _ l _ (by omega) HR1.out.src).mono ?_
  rintro e w3 ⟨y, rfl, hy, hb3⟩
  have HY : Hid (OwnR w1.heap.size w3 y l) := hy
  have HB3 : Hid (Below w.heap.size w w3) := HB1.out.trans (hb3.mono HB1.out.size)
  clear hy hb3
  go_wp2
  go_ret2
  exact ⟨ans_of HB1.out HB1.out.size HY.out, HB3.out⟩
set_option maxRecDepth 100000 in
set_option maxHeartbeats 4000000 in
theorem iDrop_none (g : Nat) (l : List Ev) (tag : Int) (w : World) (hl : l.length ≤ 1048576) (hR : RowTo w g l.length l l.length) (hg : GoodH l) (ht : wfI tag) (hk : NoTag l tag) :
    Calls Try.prog 23 #[.slice (some ⟨g, 0, none⟩) l.length l.length, .int .i64 tag] w fun e w' => Answers w.heap.size l false e w' ∧ Below w.heap.size w w' := by
  have HR : Hid (RowTo w g l.length l l.length) := hR
  have hgw : g < w.heap.size := hR.1
  clear hR
  have HG : Hid (GoodH l) := hg
  have HT : Hid (wfI tag) := ht
  have hme := fun w P => m_events P w
  have hhas : Maps.has (placesD (H := Unit) l (List.finRange l.length)) (keyL tag) = false := has_no (fun i hi => okB_tag (hg.2 i hi).1) ht hk
  clear hg ht hk
  go_enter Try.func23, Try.ntmps23
  go_wp2_with fail
  refine (iHeap_any g 0 _ l _ hl HR.out.evs).mono ?_
  rintro e w1 ⟨⟨bb, rfl, hs⟩, hb1⟩
  have hbb : bb = true := hs.2 HG.out
  subst hbb
  clear hs
  have HB1 : Hid (Below w.heap.size w w1) := hb1
  have HR1 : Hid (RowTo w1 g l.length l l.length) := HR.out.below hb1 hgw
  clear hb1 HR
  have hoks : ∀ i, i < l.length → wfI (evAt l i).g := fun i hi => okB_tag (HG.out.2 i hi).1
  have HW : Hid (∀ i, i < l.length → wfI (evAt l i).g) := hoks
  clear hoks
  go_wp2_with fail
  refine (pileOf_any _ l _ (by omega) HR1.out.src).mono ?_
  rintro e w2 ⟨P, v, rfl, hp2, hb2⟩
  have HP2 : Hid (Pl w2 w1.heap.size P v l) := hp2
  have HB2 : Hid (Below w1.heap.size w1 w2) := hb2
  have hgw1 : g < w1.heap.size := HR1.out.1
  have HR2 : Hid (RowTo w2 g l.length l l.length) := HR1.out.below hb2 hgw1
  clear hp2 hb2
  go_wp2_with fail
  refine (places_any (H := Unit) _ _ g l _ hl (.inr ⟨0, rfl, HR2.out.evs⟩) HR2.out.1 HW.out).mono ?_
  rintro e w3 ⟨rfl, hown3, hb3⟩
  have HO3 : Hid (w3.ownsMap Try.prog 33 (plainElem (H := Unit) Try.prog 3) w2.heap.size l.length (placesD l (List.finRange l.length))) := hown3
  have HB3 : Hid (Below w2.heap.size w2 w3) := hb3
  have hz3 : w2.heap.size < w3.heap.size := by obtain ⟨es, ck, h1, _⟩ := hown3; exact (Array.getElem?_eq_some_iff.1 h1).1
  clear hown3 hb3
  go_wp2_with fail
  refine (tagKey_any tag _).mono ?_
  rintro e w4 ⟨rfl, hb4⟩
  have HO4 : Hid (w4.ownsMap Try.prog 33 (plainElem (H := Unit) Try.prog 3) w2.heap.size l.length (placesD l (List.finRange l.length))) := ownsMap_below HO3.out hb4 hz3
  have HB4 : Hid (Below w2.heap.size w2 w4) := HB3.out.trans (hb4.mono HB3.out.size)
  have HP4 : Hid (Pl w4 w1.heap.size P v l) := HP2.out.later HB4.out
  clear hb4 HO3
  go_wp2_with (at_lookup; refine wpList_lookup_own_ok_int _ rfl _ _ 55 rfl 33 3 .i64 keyed25 Try.underlying55 Try.underlying3 (Try.zeroValue3 _) w2.heap.size l.length _ rfl HO4.out _ _ rfl (keyOf_tag tag HT.out) ?_; intro c hat hwc)
  have HBW : Hid (Below w.heap.size w w4) := HB1.out.trans ((HB2.out.trans (HB4.out.mono HB2.out.size)).mono HB1.out.size)
  refine (events_any w1.heap.size P v l _ (by omega) HP4.out).mono ?_
  rintro e w6 ⟨y, rfl, hy, hb6⟩
  have HY : Hid (OwnR w4.heap.size w6 y l) := hy
  have HB6 : Hid (Below w.heap.size w w6) := HBW.out.trans (hb6.mono HBW.out.size)
  clear hy hb6
  go_wp2
  go_ret2
  exact ⟨ans_of HBW.out HBW.out.size HY.out, HB6.out⟩
set_option maxRecDepth 100000 in
set_option maxHeartbeats 4000000 in
theorem iDrop_some (g : Nat) (l : List Ev) (tag : Int) (k : Nat) (w : World) (hl : l.length ≤ 1048576) (hR : RowTo w g l.length l l.length) (hg : GoodH l) (ht : wfI tag) (hk : FirstAt l tag k) :
    Calls Try.prog 23 #[.slice (some ⟨g, 0, none⟩) l.length l.length, .int .i64 tag] w fun e w' => Answers w.heap.size (takeL l k) true e w' ∧ Below w.heap.size w w' := by
  have HR : Hid (RowTo w g l.length l l.length) := hR
  have hgw : g < w.heap.size := hR.1
  clear hR
  have HG : Hid (GoodH l) := hg
  have HT : Hid (wfI tag) := ht
  have hme := fun w P => m_events P w
  obtain ⟨n, hn⟩ : ∃ n, l.length = n + 1 := ⟨l.length - 1, by have := hk.1; omega⟩
  have hkn : k < n + 1 := by have := hk.1; omega
  have HN : Hid (l.length = n + 1) := hn
  have hyes := has_yes (fun i hi => okB_tag (hg.2 i hi).1) ht (fun i hi => (hg.2 i hi).2.2) hk
  have hhas : Maps.has (placesD (H := Unit) l (List.finRange l.length)) (keyL tag) = true := hyes.1
  have HC : Hid (∀ c : Int, (placesD (H := Unit) l (List.finRange l.length)).atKey (keyL tag) (.lit (.int .i64 0)) = .lit (.int .i64 c) → c = (k : Int)) := hyes.2
  clear hg ht hk hyes hn
  go_enter Try.func23, Try.ntmps23
  go_wp2_with fail
  refine (iHeap_any g 0 _ l _ hl HR.out.evs).mono ?_
  rintro e w1 ⟨⟨bb, rfl, hs⟩, hb1⟩
  have hbb : bb = true := hs.2 HG.out
  subst hbb
  clear hs
  have HB1 : Hid (Below w.heap.size w w1) := hb1
  have HR1 : Hid (RowTo w1 g l.length l l.length) := HR.out.below hb1 hgw
  clear hb1 HR
  have hoks : ∀ i, i < l.length → wfI (evAt l i).g := fun i hi => okB_tag (HG.out.2 i hi).1
  have HW : Hid (∀ i, i < l.length → wfI (evAt l i).g) := hoks
  clear hoks
  go_wp2_with fail
  refine (pileOf_any _ l _ (by omega) HR1.out.src).mono ?_
  rintro e w2 ⟨P, v, rfl, hp2, hb2⟩
  have HP2 : Hid (Pl w2 w1.heap.size P v l) := hp2
  have HB2 : Hid (Below w1.heap.size w1 w2) := hb2
  have hgw1 : g < w1.heap.size := HR1.out.1
  have HR2 : Hid (RowTo w2 g l.length l l.length) := HR1.out.below hb2 hgw1
  clear hp2 hb2
  go_wp2_with fail
  refine (places_any (H := Unit) _ _ g l _ hl (.inr ⟨0, rfl, HR2.out.evs⟩) HR2.out.1 HW.out).mono ?_
  rintro e w3 ⟨rfl, hown3, hb3⟩
  have HO3 : Hid (w3.ownsMap Try.prog 33 (plainElem (H := Unit) Try.prog 3) w2.heap.size l.length (placesD l (List.finRange l.length))) := hown3
  have HB3 : Hid (Below w2.heap.size w2 w3) := hb3
  have hz3 : w2.heap.size < w3.heap.size := by obtain ⟨es, ck, h1, _⟩ := hown3; exact (Array.getElem?_eq_some_iff.1 h1).1
  clear hown3 hb3
  go_wp2_with fail
  refine (tagKey_any tag _).mono ?_
  rintro e w4 ⟨rfl, hb4⟩
  have HO4 : Hid (w4.ownsMap Try.prog 33 (plainElem (H := Unit) Try.prog 3) w2.heap.size l.length (placesD l (List.finRange l.length))) := ownsMap_below HO3.out hb4 hz3
  have HB4 : Hid (Below w2.heap.size w2 w4) := HB3.out.trans (hb4.mono HB3.out.size)
  have HP4 : Hid (Pl w4 w1.heap.size P v l) := HP2.out.later HB4.out
  clear hb4 HO3
  go_wp2_with (at_lookup; refine wpList_lookup_own_ok_int _ rfl _ _ 55 rfl 33 3 .i64 keyed25 Try.underlying55 Try.underlying3 (Try.zeroValue3 _) w2.heap.size l.length _ rfl HO4.out _ _ rfl (keyOf_tag tag HT.out) ?_; intro c hat hwc)
  have hc : c = (k : Int) := HC.out c hat
  subst hc
  clear hat hwc
  obtain ⟨g5, cap5, hv5, hR5, hPg5⟩ := HP4.out.form HN.out
  subst hv5
  refine (libRemove_any w1.heap.size P g5 cap5 l k n _ HN.out hkn HP4.out hl HG.out.oks HG.out.heap).mono ?_
  rintro e w5 ⟨⟨u, rfl⟩, ⟨v5, hp5⟩, ht5⟩
  have HP5 : Hid (Pl w5 w1.heap.size P v5 (takeL l k)) := hp5
  have HBW : Hid (Below w.heap.size w w5) := HB1.out.trans (((HB2.out.trans (HB4.out.mono HB2.out.size)).trans (ht5.to_below (fun b hb => by rcases hb with rfl | rfl; exact HP4.out.low; exact hR5.lt.1) (by have := HB2.out.size; have := HB4.out.size; omega))).mono HB1.out.size)
  clear hp5 ht5 hR5
  go_wp2_with fail
  refine (events_any w1.heap.size P v5 (takeL l k) _ (by rw [takeL_length]; omega) HP5.out).mono ?_
  rintro e w6 ⟨y, rfl, hy, hb6⟩
  have HY : Hid (OwnR w5.heap.size w6 y (takeL l k)) := hy
  have HB6 : Hid (Below w.heap.size w w6) := HBW.out.trans (hb6.mono HBW.out.size)
  clear hy hb6
  go_wp2
  go_ret2
  exact ⟨ans_of HBW.out HBW.out.size HY.out, HB6.out⟩
theorem drop_same (l : List Ev) (tag : Int) (hl : l.length ≤ 1048576) (ht : wfI tag) : ∃ (l' : List Ev) (bb : Bool), l'.length ≤ 1048577 ∧
    (∀ (w : World) (g : Nat), RowTo w g l.length l l.length → Calls Try.prog 22 #[.slice (some ⟨g, 0, none⟩) l.length l.length, .int .i64 tag] w fun e w' => Answers w.heap.size l' bb e w' ∧ Below w.heap.size w w') ∧
    (∀ (w : World) (g : Nat), RowTo w g l.length l l.length → Calls Try.prog 23 #[.slice (some ⟨g, 0, none⟩) l.length l.length, .int .i64 tag] w fun e w' => Answers w.heap.size l' bb e w' ∧ Below w.heap.size w w') := by
  by_cases hg : GoodH l
  · rcases firstAt_or l tag with ⟨k, hk⟩ | hno
    · exact ⟨takeL l k, true, by rw [takeL_length]; omega, fun w g h => sDrop_some g l tag k w hl h hg hk, fun w g h => iDrop_some g l tag k w hl h hg ht hk⟩
    · exact ⟨l, false, by omega, fun w g h => sDrop_none g l tag w hl h hg hno, fun w g h => iDrop_none g l tag w hl h hg ht hno⟩
  · exact ⟨[], false, by simp, fun w g h => sDrop_bad g l tag w hl h hg, fun w g h => iDrop_bad g l tag w hl h hg⟩
end Go.Proofs.Ythklekjglocbgaa
