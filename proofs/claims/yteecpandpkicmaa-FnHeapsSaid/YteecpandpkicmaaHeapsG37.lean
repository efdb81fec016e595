/- GDrop, QPure -/
import Derived.Test.YteecpandpkicmaaHeapsG29
import Derived.Test.YteecpandpkicmaaHeapsLLibRem
import Derived.Test.YteecpandpkicmaaHeapsG09
import Derived.Test.YteecpandpkicmaaHeapsLOrd
import Derived.Test.YteecpandpkicmaaHeapsG01
/- The program's HeapDrop over slices of any room. -/
namespace Go.Proofs.Yteecpandpkicmaa
open Go.RowKit Go.Maps Go.WideShapes
set_option maxRecDepth 100000 in
set_option maxHeartbeats 4000000 in
theorem gDrop_some (a : Option Addr) (cap : Nat) (l : List Ev) (tag : Int) (k : Nat) (w : World) (hl : l.length ≤ 1048576) (hR : Src w (.slice a l.length cap) l) (hw0 : 0 < w.heap.size) (hg : GoodH l) (ht : wfI tag) (hk : FirstAt l tag k) :
    Calls Try.prog 19 #[.slice a l.length cap, .int .i64 tag] w fun e w' => AnswersR w.heap.size (takeL l k) true e w' ∧ Below w.heap.size w w' := by
  have HR : Hid (Src w (.slice a l.length cap) l) := hR
  clear hR
  have HG : Hid (GoodH l) := hg
  have HT : Hid (wfI tag) := ht
  have hme := fun w P => m_events P w
  obtain ⟨n, hn⟩ : ∃ n, l.length = n + 1 := ⟨l.length - 1, by have := hk.1; omega⟩
  have hkn : k < n + 1 := by have := hk.1; omega
  have HN : Hid (l.length = n + 1) := hn
  have hyes := has_yes (fun i hi => okB_tag (hg.2 i hi).1) ht (fun i hi => (hg.2 i hi).2.2) hk
  have hhas : Maps.has (placesD (H := Unit) l (List.finRange l.length)) (keyL tag) = true := hyes.1
  have HC : Hid (∀ c : Int, (placesD (H := Unit) l (List.finRange l.length)).atKey (keyL tag) (.lit (.int .i64 0)) = .lit (.int .i64 c) → c = (k : Int)) := hyes.2
  clear hg ht hk hyes hn
  go_enter Try.func19, Try.ntmps19
  go_wp2_with fail
  refine (iHeap_src _ _ l _ hl HR.out (by first | omega | (simp; done) | (have h9 := HB0.out.size; omega) | (have h9 := HB1.out.size; omega))).mono ?_
  rintro e w1 ⟨⟨bb, rfl, hs⟩, hb1⟩
  have hbb : bb = true := hs.2 HG.out
  subst hbb
  clear hs
  have HB1 : Hid (Below w.heap.size w w1) := hb1
  have HR1 : Hid (Src w1 (.slice a l.length cap) l) := HR.out.below hb1
  clear hb1 HR
  have hoks : ∀ i, i < l.length → wfI (evAt l i).g := fun i hi => okB_tag (HG.out.2 i hi).1
  have HW : Hid (∀ i, i < l.length → wfI (evAt l i).g) := hoks
  clear hoks
  go_wp2_with fail
  refine (pileOf_any _ l _ (by omega) HR1.out).mono ?_
  rintro e w2 ⟨P, v, rfl, hp2, hb2⟩
  have HP2 : Hid (Pl w2 w1.heap.size P v l) := hp2
  have HB2 : Hid (Below w1.heap.size w1 w2) := hb2
  have hgw1 : 0 < w1.heap.size := by have := HB1.out.size; omega
  have HR2 : Hid (Src w2 (.slice a l.length cap) l) := HR1.out.below hb2
  clear hp2 hb2
  go_wp2_with fail
  obtain ⟨b9, hb9, hI9⟩ := HR2.out.parts (by have := HB2.out.size; omega)
  refine (places_any (H := Unit) _ _ b9 l _ hl hI9 hb9 HW.out).mono ?_
  clear hI9 hb9
  rintro e w3 ⟨rfl, hown3, hb3⟩
  have HO3 : Hid (w3.ownsMap Try.prog 25 (plainElem (H := Unit) Try.prog 3) w2.heap.size l.length (placesD l (List.finRange l.length))) := hown3
  have HB3 : Hid (Below w2.heap.size w2 w3) := hb3
  have hz3 : w2.heap.size < w3.heap.size := by obtain ⟨es, ck, h1, _⟩ := hown3; exact (Array.getElem?_eq_some_iff.1 h1).1
  clear hown3 hb3
  go_wp2_with fail
  refine (tagKey_any tag _).mono ?_
  rintro e w4 ⟨rfl, hb4⟩
  have HO4 : Hid (w4.ownsMap Try.prog 25 (plainElem (H := Unit) Try.prog 3) w2.heap.size l.length (placesD l (List.finRange l.length))) := ownsMap_below HO3.out hb4 hz3
  have HB4 : Hid (Below w2.heap.size w2 w4) := HB3.out.trans (hb4.mono HB3.out.size)
  have HP4 : Hid (Pl w4 w1.heap.size P v l) := HP2.out.later HB4.out
  clear hb4 HO3
  go_wp2_with (at_lookup; refine wpList_lookup_own_ok_int _ rfl _ _ 51 rfl 25 3 .i64 keyed25 Try.underlying51 Try.underlying3 (Try.zeroValue3 _) w2.heap.size l.length _ rfl HO4.out _ _ rfl (keyOf_tag tag HT.out) ?_; intro c hat hwc)
  have hc : c = (k : Int) := HC.out c hat
  subst hc
  clear hat hwc
  obtain ⟨g5, cap5, hv5, hR5, hPg5⟩ := HP4.out.form HN.out
  subst hv5
  refine (libRemove_any w1.heap.size P g5 cap5 l k n _ HN.out hkn HP4.out hl HG.out.oks HG.out.heap).mono ?_
  rintro e w5 ⟨⟨u, rfl⟩, ⟨v5, hp5⟩, ht5⟩
  have HP5 : Hid (Pl w5 w1.heap.size P v5 (takeL l k)) := hp5
  have HBW : Hid (Below w.heap.size w w5) := HB1.out.trans (((HB2.out.trans (HB4.out.mono HB2.out.size)).trans (ht5.to_below (fun b hb => by rcases hb with rfl | rfl; exact HP4.out.low; exact hR5.lt.1) (by have := HB2.out.size; have := HB4.out.size; omega))).mono HB1.out.size)
  clear hp5 ht5 hR5
  go_wp2_with fail
  refine (events_any w1.heap.size P v5 (takeL l k) _ (by rw [takeL_length]; omega) HP5.out).mono ?_
  rintro e w6 ⟨y, rfl, hy, hb6⟩
  have HY : Hid (OwnR w5.heap.size w6 y (takeL l k)) := hy
  have HB6 : Hid (Below w.heap.size w w6) := HBW.out.trans (hb6.mono HBW.out.size)
  clear hy hb6
  go_wp2
  go_ret2
  exact ⟨ans_ofR HBW.out HBW.out.size HY.out, HB6.out⟩
end Go.Proofs.Yteecpandpkicmaa

/- What follows of an event that is put into its place. -/
namespace Go.Proofs.Yteecpandpkicmaa
open Go.RowKit

def insL (l : List Ev) (e : Ev) (p : Nat) : List Ev := l.take p ++ e :: l.drop p
theorem insL_length (l : List Ev) (e : Ev) (p : Nat) (hp : p ≤ l.length) : (insL l e p).length = l.length + 1 := by simp [insL]; omega
theorem insL_lt (l : List Ev) (e : Ev) (p i : Nat) (hp : p ≤ l.length) (hi : i < p) : evAt (insL l e p) i = evAt l i := by
  unfold evAt insL
  simp [List.getElem?_append_left (by simp; omega : i < (l.take p).length), List.getElem?_take_of_lt hi]
theorem insL_eq (l : List Ev) (e : Ev) (p : Nat) (hp : p ≤ l.length) : evAt (insL l e p) p = e := by
  unfold evAt insL
  have h1 : (l.take p).length = p := by simp; omega
  simp [h1]
theorem insL_gt (l : List Ev) (e : Ev) (p i : Nat) (hp : p ≤ l.length) (hi : p < i) : evAt (insL l e p) i = evAt l (i - 1) := by
  unfold evAt insL
  have h1 : (l.take p).length = p := by simp; omega
  have h2 : i - p = (i - p - 1) + 1 := by omega
  have h3 : p + (i - p - 1) = i - 1 := by omega
  simp only [List.getD_eq_getElem?_getD]
  rw [List.getElem?_append_right (by omega), h1, h2, List.getElem?_cons_succ, List.getElem?_drop, h3]
theorem cmp_lt_iff (a b : Ev) : a.cmp b < 0 ↔ a.t < b.t ∨ (a.t = b.t ∧ (a.s < b.s ∨ (a.s = b.s ∧ (a.q < b.q ∨ (a.q = b.q ∧ a.g < b.g))))) := cmpI_lt _ _ _ _ _ _ _ _
theorem cmp_other {a b : Ev} (h : ¬ a.cmp b < 0) (hg : a.g ≠ b.g) : b.cmp a < 0 := by
  rw [cmp_lt_iff] at *
  omega
theorem cmp_self (a : Ev) : a.cmp a = 0 := by simp [Ev.cmp, cmpI, num]
theorem ins_good {l : List Ev} {e : Ev} {p : Nat} (hg : GoodQ l) (he : e.ok = true) (hno : NoTag l e.g) (hl : l.length < 2000) (hp : InsAt l e p) : GoodQ (insL l e p) := by
  obtain ⟨h1, h2, h3⟩ := hp
  refine ⟨by rw [insL_length _ _ _ h1]; omega, fun i hi => ?_⟩
  rw [insL_length _ _ _ h1] at hi
  rcases Nat.lt_trichotomy i p with h | h | h
  · obtain ⟨a, b, c⟩ := hg.2 i (by omega)
    unfold Good1
    rw [insL_lt _ _ _ _ h1 h]
    refine ⟨a, fun h0 => ?_, fun j hj => ?_⟩
    · rw [insL_lt _ _ _ _ h1 (by omega)]; exact b h0
    · rw [insL_lt _ _ _ _ h1 (by omega)]; exact c j hj
  · subst h
    unfold Good1
    rw [insL_eq _ _ _ h1]
    refine ⟨he, fun h0 => ?_, fun j hj => ?_⟩
    · rw [insL_lt _ _ _ _ h1 (by omega)]; exact h2 _ (by omega)
    · rw [insL_lt _ _ _ _ h1 hj]; exact hno j (by omega)
  · obtain ⟨a, b, c⟩ := hg.2 (i - 1) (by omega)
    unfold Good1
    rw [insL_gt _ _ _ _ h1 h]
    refine ⟨a, fun h0 => ?_, fun j hj => ?_⟩
    · by_cases h4 : i = p + 1
      · subst h4
        rw [show p + 1 - 1 = p from by omega, insL_eq _ _ _ h1]
        exact cmp_other (h3 (by omega)) (hno p (by omega))
      · rw [insL_gt _ _ _ _ h1 (by omega)]
        exact b (by omega)
    · rcases Nat.lt_trichotomy j p with h5 | h5 | h5
      · rw [insL_lt _ _ _ _ h1 h5]; exact c j (by omega)
      · subst h5
        rw [insL_eq _ _ _ h1]
        exact fun e' => hno (i - 1) (by omega) e'.symm
      · rw [insL_gt _ _ _ _ h1 h5]; exact c (j - 1) (by omega)
theorem ins_first {l : List Ev} {e : Ev} {p : Nat} (hno : NoTag l e.g) (hp : p ≤ l.length) : FirstAt (insL l e p) e.g p :=
  ⟨by rw [insL_length _ _ _ hp]; omega, by rw [insL_eq _ _ _ hp], fun j hj => by rw [insL_lt _ _ _ _ hp hj]; exact hno j (by omega)⟩
theorem ins_take (l : List Ev) (e : Ev) (p : Nat) (hp : p ≤ l.length) : (insL l e p).take p ++ (insL l e p).drop (p + 1) = l := by
  have h1 : (l.take p).length = p := by simp; omega
  have h2 : (insL l e p).take p = l.take p := by
    unfold insL
    rw [List.take_append_of_le_length (by omega), List.take_of_length_le (by omega)]
  have h3 : (insL l e p).drop (p + 1) = l.drop p := by
    unfold insL
    rw [List.drop_append, h1, List.drop_of_length_le (by omega), show p + 1 - p = 1 from by omega]
    simp
  rw [h2, h3, List.take_append_drop]
theorem good_lt {l : List Ev} (hg : GoodQ l) (i : Nat) : ∀ j, i < j → j < l.length → (evAt l i).cmp (evAt l j) < 0
  | 0, h, _ => by omega
  | j + 1, h, hl => by
    have h1 := (hg.2 (j + 1) hl).2.1 (by omega)
    rw [Nat.add_sub_cancel] at h1
    by_cases e : i = j
    · subst e; exact h1
    · exact cmp_trans (good_lt hg i j (by omega) (by omega)) h1
theorem good_first {l : List Ev} (hg : GoodQ l) {i : Nat} (hi : i < l.length) : ¬ 0 < (evAt l 0).ecmp (evAt l i) := by
  have h0 := (hg.2 0 (by omega)).1
  have h1 := (hg.2 i hi).1
  unfold Ev.ecmp ecmp
  rw [if_pos ⟨h0, h1⟩]
  by_cases e : i = 0
  · subst e
    have := cmp_self (evAt l 0)
    unfold Ev.cmp at this
    omega
  · have := good_lt hg 0 i (by omega) hi
    unfold Ev.cmp at this
    omega
end Go.Proofs.Yteecpandpkicmaa

