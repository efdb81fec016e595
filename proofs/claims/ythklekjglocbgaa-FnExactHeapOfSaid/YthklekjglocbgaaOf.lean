/- Both HeapOf; they give the same. -/
import Derived.Test.YthklekjglocbgaaPushAll
import Derived.Test.YthklekjglocbgaaPushS2
namespace Go.Proofs.Ythklekjglocbgaa
open Go.RowKit
theorem kept_fold_iff {Q : Ev → Prop} : ∀ (l m : List Ev), Kept Q (l.foldl pushL m) ↔ Kept Q m ∧ ∀ e ∈ l, Q e
  | [], m => by simp
  | e :: l, m => by
    rw [List.foldl_cons, kept_fold_iff l, kept_pushL]
    simp only [List.mem_cons, forall_eq_or_imp]
    exact ⟨fun ⟨⟨a, b⟩, c⟩ => ⟨a, b, c⟩, fun ⟨a, b, c⟩ => ⟨⟨a, b⟩, c⟩⟩
theorem mem_take_at {l : List Ev} {k : Nat} {e : Ev} (h : e ∈ l.take k) : ∃ j, j < k ∧ j < l.length ∧ evAt l j = e := by
  obtain ⟨j, hj, rfl⟩ := List.mem_iff_getElem.1 h
  have hj' : j < k ∧ j < l.length := by simp at hj; omega
  exact ⟨j, hj'.1, hj'.2, by simp [evAt, hj'.2]⟩
theorem at_mem_take {l : List Ev} {k j : Nat} (h : j < k) (hl : j < l.length) : evAt l j ∈ l.take k := by
  rw [← evAt_take l k j h]
  have hj : j < (l.take k).length := by simp; omega
  have : evAt (l.take k) j = (l.take k)[j] := by simp [evAt, hl, h]
  rw [this]
  exact List.getElem_mem hj
theorem noTag_fold (l : List Ev) (k : Nat) (tag : Int) (hk : k ≤ l.length) : NoTag ((l.take k).foldl pushL []) tag ↔ ∀ j, j < k → (evAt l j).g ≠ tag := by
  have h := kept_fold_iff (Q := fun e => e.g ≠ tag) (l.take k) []
  constructor
  · intro hn j hj
    exact (h.1 hn).2 _ (at_mem_take hj (by omega))
  · intro hn
    refine h.2 ⟨fun j hj => by simp at hj, fun e he => ?_⟩
    obtain ⟨j, hj, _, rfl⟩ := mem_take_at he
    exact hn j hj
set_option maxHeartbeats 1000000 in
theorem find_nil (tag : Int) (w : World) : Calls Try.prog 30 #[.slice none 0 0, .int .i64 tag] w fun e w' => e = .returned (.int .i64 (-1)) ∧ w' = w := by
  go_enter Try.func30, Try.ntmps30
  go_wp2
  go_loop [5] (fun i => i = .int .i64 0) (fun _ => 0)
  case atStart => rfl
  case round =>
    subst hrel
    go_wp2
    go_ret
    exact ⟨rfl, rfl⟩
theorem find_own_none {B : Nat} {w : World} {o : Value} {m : List Ev} {tag : Int} (h : OwnR B w o m) (hl : m.length ≤ 1048576) (hn : NoTag m tag) : Calls Try.prog 30 #[o, .int .i64 tag] w fun e w' => e = .returned (.int .i64 (-1)) ∧ w' = w := by
  rcases h.src with ⟨rfl, _⟩ | ⟨b, off, cap, rfl, hev⟩
  · exact find_nil tag w
  · exact find_none b off cap m tag w hl hev hn
theorem find_own_some {B : Nat} {w : World} {o : Value} {m : List Ev} {tag : Int} {i : Nat} (h : OwnR B w o m) (hl : m.length ≤ 1048576) (hn : FirstAt m tag i) : Calls Try.prog 30 #[o, .int .i64 tag] w fun e w' => e = .returned (.int .i64 (i : Int)) ∧ w' = w := by
  rcases h.src with ⟨_, rfl⟩ | ⟨b, off, cap, rfl, hev⟩
  · exact absurd hn.1 (by simp)
  · exact find_some b off cap m tag i w hl hev hn
def Good1L (l : List Ev) (i : Nat) : Prop := (evAt l i).ok = true ∧ ∀ j, j < i → (evAt l j).g ≠ (evAt l i).g
def GoodL (l : List Ev) : Prop := l.length ≤ 2000 ∧ ∀ i, i < l.length → Good1L l i
def AnsL (l : List Ev) (B : Nat) (e : Ending) (w' : World) : Prop := (GoodL l ∧ Answers B (l.foldl pushL []) true e w') ∨ (¬ GoodL l ∧ Answers B [] false e w')
theorem take_succ_ev (l : List Ev) (k : Nat) (h : k < l.length) : l.take (k + 1) = l.take k ++ [evAt l k] := by
  rw [List.take_succ_eq_append_getElem h]
  simp [evAt, h]
set_option maxRecDepth 100000 in
set_option maxHeartbeats 4000000 in
theorem sOf_any (g : Nat) (l : List Ev) (w : World) (hl : l.length ≤ 1048576) (hR : RowTo w g l.length l l.length) :
    Calls Try.prog 24 #[.slice (some ⟨g, 0, none⟩) l.length l.length] w fun e w' => AnsL l w.heap.size e w' ∧ Below w.heap.size w w' := by
  have HR : Hid (RowTo w g l.length l l.length) := hR
  have hgw : g < w.heap.size := hR.1
  clear hR
  by_cases h0 : l.length ≤ 2000
  · have hd : ¬ ((2000 : Int) < (l.length : Int)) := by omega
    go_enter Try.func24, Try.ntmps24
    go_wp2
    go_loopw [4, 5] (fun o i wr => ∃ k : Nat, k ≤ l.length ∧ i = .int .i64 k ∧ Hid (OwnR w.heap.size wr o ((l.take k).foldl pushL [])) ∧ Hid (Below w.heap.size w wr) ∧ Hid (∀ i, i < k → Good1L l i)) (fun _ i _ => l.length - (intOf i).toNat)
    case atStart => exact ⟨0, Nat.zero_le _, rfl, OwnR.nil _ _, Below.refl _ _, fun i hi => by omega⟩
    case round =>
      obtain ⟨k, hk, rfl, HO, HB, HG⟩ := hrel
      by_cases hlt : k < l.length
      · have hkn : (k : Int) < (l.length : Int) := by omega
        have HR2 : Hid (RowTo wr g l.length l l.length) := HR.out.below HB.out hgw
        obtain ⟨f0, f1, f2, f3, f4, f5, f6⟩ := HR2.out.2.2 k hlt
        cases hok : (evAt l k).ok
        · have HOK : Hid ((evAt l k).ok = false) := hok
          clear hok
          go_wp2_with fail
          refine (sOk_ev (evAt l k) false HOK.out _).mono ?_
          rintro e w2 ⟨rfl, hb2⟩
          go_wp2
          go_ret2
          exact ⟨.inr ⟨fun h => (by have := (h.2 k hlt).1; rw [HOK.out] at this; cases this), _, rfl, OwnEvs.nil _ _⟩, HB.out.trans (hb2.mono HB.out.size)⟩
        · have HOK : Hid ((evAt l k).ok = true) := hok
          clear hok
          have hfl : ((l.take k).foldl pushL []).length ≤ 1048576 := by rw [fold_length]; simp; omega
          go_wp2_with fail
          refine (sOk_ev (evAt l k) true HOK.out _).mono ?_
          rintro e w2 ⟨rfl, hb2⟩
          have HB2 : Hid (Below w.heap.size w w2) := HB.out.trans (hb2.mono HB.out.size)
          have HO2 : Hid (OwnR w.heap.size w2 u4 ((l.take k).foldl pushL [])) := HO.out.below hb2
          have HR3 : Hid (RowTo w2 g l.length l l.length) := HR2.out.below hb2 HR2.out.1
          clear f0 f1 f2 f3 f4 f5 f6 hb2 HB HO HR2
          obtain ⟨f0, f1, f2, f3, f4, f5, f6⟩ := HR3.out.2.2 k hlt
          rcases firstAt_or ((l.take k).foldl pushL []) (evAt l k).g with ⟨i, hfi⟩ | hno
          · have HFI : Hid (FirstAt ((l.take k).foldl pushL []) (evAt l k).g i) := hfi
            have hdi : (0 : Int) ≤ (i : Int) := by omega
            have hdi2 : decide ((0 : Int) ≤ (i : Int)) = true := by simp
            clear hfi
            go_wp2_with fail
            refine (find_own_some HO2.out hfl HFI.out).mono ?_
            rintro e w3 ⟨rfl, hw⟩
            have hw' := hw.symm
            clear hw
            subst hw'
            go_wp2
            go_ret2
            refine ⟨.inr ⟨fun h => ?_, _, rfl, OwnEvs.nil _ _⟩, HB2.out⟩
            exact ((noTag_fold l k (evAt l k).g hk).2 (h.2 k hlt).2) i HFI.out.1 HFI.out.2.1
          · have HNO : Hid (NoTag ((l.take k).foldl pushL []) (evAt l k).g) := hno
            clear hno
            go_wp2_with fail
            refine (find_own_none HO2.out hfl HNO.out).mono ?_
            rintro e w3 ⟨rfl, hw⟩
            have hw' := hw.symm
            clear hw
            subst hw'
            go_wp2_with fail
            refine (sPush_any _ ((l.take k).foldl pushL []) (evAt l k) _ hfl HO2.out.src).mono ?_
            rintro e w4 ⟨y, rfl, hy, hb4⟩
            have HY : Hid (OwnR w.heap.size w4 y (pushL ((l.take k).foldl pushL []) (evAt l k))) := hy.mono HB2.out.size
            have HB4 : Hid (Below w.heap.size w w4) := HB2.out.trans (hb4.mono HB2.out.size)
            clear hy hb4 f0 f1 f2 f3 f4 f5 f6
            go_wp2
            go_roundw
            case rel => exact ⟨k + 1, by omega, by go_num, by unfold Hid; rw [take_succ_ev l k hlt, List.foldl_append]; exact HY.out, HB4.out, fun i hi => by
              by_cases e : i = k
              · subst e; exact ⟨HOK.out, (noTag_fold l i _ hk).1 HNO.out⟩
              · exact HG.out i (by omega)⟩
            case measure => simp [intOf]; omega
      · go_wp2
        go_ret2
        obtain rfl : k = l.length := by omega
        refine ⟨.inl ⟨⟨h0, HG.out⟩, _, rfl, ?_⟩, HB.out⟩
        have h9 := HO.out
        rw [List.take_length] at h9
        exact h9.own
  · have hd : (2000 : Int) < (l.length : Int) := by omega
    go_enter Try.func24, Try.ntmps24
    go_wp2
    go_ret2
    exact ⟨.inr ⟨fun h => h0 h.1, _, rfl, OwnEvs.nil _ _⟩, Below.refl _ _⟩
set_option maxRecDepth 100000 in
set_option maxHeartbeats 4000000 in
theorem iOf_any (g : Nat) (l : List Ev) (w : World) (hl : l.length ≤ 1048576) (hR : RowTo w g l.length l l.length) :
    Calls Try.prog 25 #[.slice (some ⟨g, 0, none⟩) l.length l.length] w fun e w' => AnsL l w.heap.size e w' ∧ Below w.heap.size w w' := by
  have HR : Hid (RowTo w g l.length l l.length) := hR
  have hgw : g < w.heap.size := hR.1
  clear hR
  by_cases h0 : l.length ≤ 2000
  · have hd : ¬ ((2000 : Int) < (l.length : Int)) := by omega
    have hd2 : decide ((2000 : Int) < (l.length : Int)) = false := by simp; omega
    have hd3 : decide (2000 < l.length) = false := by simp; omega
    have hme := fun w P => m_events P w
    go_enter Try.func25, Try.ntmps25
    go_wp2_with fail
    refine (eventsOk_any (some ⟨g, 0, none⟩) _ g l _ hl (.inr ⟨0, rfl, HR.out.evs⟩) hgw).mono ?_
    rintro e w1 ⟨⟨b1, rfl, hs1⟩, hb1⟩
    have HS1 : Hid (b1 = true ↔ ∀ i, i < l.length → (evAt l i).ok = true) := hs1
    clear hs1
    have HB1 : Hid (Below w.heap.size w w1) := hb1
    have HR1 : Hid (RowTo w1 g l.length l l.length) := HR.out.below hb1 hgw
    clear hb1 HR
    cases b1
    · go_wp2
      go_ret2
      exact ⟨.inr ⟨fun h => (by have := HS1.out.2 (fun i hi => (h.2 i hi).1); cases this), _, rfl, OwnEvs.nil _ _⟩, HB1.out⟩
    · have HOK : Hid (∀ i, i < l.length → (evAt l i).ok = true) := HS1.out.1 rfl
      clear HS1
      go_wp2_with fail
      refine (tagsDiffer_any (some ⟨g, 0, none⟩) _ g l _ hl (.inr ⟨0, rfl, HR1.out.evs⟩) HR1.out.1 (fun i hi => okB_tag (HOK.out i hi))).mono ?_
      rintro e w2 ⟨⟨b2, rfl, hs2⟩, hb2⟩
      have HS2 : Hid (b2 = true ↔ ∀ i, i < l.length → ∀ j, j < i → (evAt l j).g ≠ (evAt l i).g) := hs2
      have HB2 : Hid (Below w.heap.size w w2) := HB1.out.trans (hb2.mono HB1.out.size)
      have HR2 : Hid (RowTo w2 g l.length l l.length) := HR1.out.below hb2 HR1.out.1
      clear hs2 hb2 HR1
      cases b2
      · go_wp2
        go_ret2
        exact ⟨.inr ⟨fun h => (by have := HS2.out.2 (fun i hi => (h.2 i hi).2); cases this), _, rfl, OwnEvs.nil _ _⟩, HB2.out⟩
      · have HO2 : Hid (∀ i, i < l.length → ∀ j, j < i → (evAt l j).g ≠ (evAt l i).g) := HS2.out.1 rfl
        clear HS2
        go_wp2_with fail
        refine (pileOf_any (.slice none 0 0) [] _ (by simp) (.inl ⟨rfl, rfl⟩)).mono ?_
        rintro e w3 ⟨P, v, rfl, hp3, hb3⟩
        have HP3 : Hid (Pl w3 w2.heap.size P v []) := hp3
        have HB3 : Hid (Below w2.heap.size w2 w3) := hb3
        have HR3 : Hid (RowTo w3 g l.length l l.length) := HR2.out.below hb3 HR2.out.1
        have hg2 : g < w2.heap.size := HR2.out.1
        have HPA : Hid (Calls Try.prog 38 #[pv P, .slice (some ⟨g, 0, none⟩) l.length l.length] w3 fun e w' => e = .returned (.bool true) ∧ (∃ v', Pl w' w2.heap.size P v' (l.foldl pushL []) ∧ NewRow w3 v v') ∧ Turns (fun k => k = P ∨ v.ownBlock = some k) w3 w') :=
          pushAll_ok w2.heap.size P v [] (some ⟨g, 0, none⟩) l.length g l w3 h0 hb3.size hp3 (.inr ⟨0, rfl, HR3.out.evs⟩) HR3.out.1 (by have := hp3.low; omega) (fun e => by have := (OwnR.block hp3.row e).1; omega) (by simpa using h0) (fun j hj => by simp at hj) HOK.out (fun i hi j hj => by simp at hj)
        have HLO : Hid (w2.heap.size ≤ P ∧ ∀ k, v.ownBlock = some k → w2.heap.size ≤ k) := ⟨hp3.low, fun k e => (OwnR.block hp3.row e).1⟩
        clear hp3 hb3 HR2
        go_wp2_with fail
        refine HPA.out.mono ?_
        rintro e w4 ⟨rfl, ⟨v4, hp4, _⟩, ht4⟩
        have HP4 : Hid (Pl w4 w2.heap.size P v4 (l.foldl pushL [])) := hp4
        have HB4 : Hid (Below w.heap.size w w4) := HB2.out.trans ((HB3.out.trans (ht4.to_below (fun k h => by rcases h with rfl | h; exact HLO.out.1; exact HLO.out.2 k h) HB3.out.size)).mono HB2.out.size)
        clear hp4 ht4 HPA
        go_wp2_with fail
        refine (events_any w2.heap.size P v4 (l.foldl pushL []) _ (by rw [fold_length]; simp; omega) HP4.out).mono ?_
        rintro e w5 ⟨y, rfl, hy, hb5⟩
        have HY : Hid (OwnR w4.heap.size w5 y (l.foldl pushL [])) := hy
        have HB5 : Hid (Below w.heap.size w w5) := HB4.out.trans (hb5.mono HB4.out.size)
        clear hy hb5
        go_wp2
        go_ret2
        exact ⟨.inl ⟨⟨h0, fun i hi => ⟨HOK.out i hi, HO2.out i hi⟩⟩, ans_of HB4.out HB4.out.size HY.out⟩, HB5.out⟩
  · have hd : (2000 : Int) < (l.length : Int) := by omega
    go_enter Try.func25, Try.ntmps25
    go_wp2
    go_ret2
    exact ⟨.inr ⟨fun h => h0 h.1, _, rfl, OwnEvs.nil _ _⟩, Below.refl _ _⟩
theorem of_both (l : List Ev) (hl : l.length ≤ 1048576) : ∃ (l' : List Ev) (bb : Bool), l'.length ≤ 1048577 ∧
    (∀ (w : World) (g : Nat), RowTo w g l.length l l.length → Calls Try.prog 24 #[.slice (some ⟨g, 0, none⟩) l.length l.length] w fun e w' => Answers w.heap.size l' bb e w' ∧ Below w.heap.size w w') ∧
    (∀ (w : World) (g : Nat), RowTo w g l.length l l.length → Calls Try.prog 25 #[.slice (some ⟨g, 0, none⟩) l.length l.length] w fun e w' => Answers w.heap.size l' bb e w' ∧ Below w.heap.size w w') := by
  by_cases hg : GoodL l
  · exact ⟨l.foldl pushL [], true, by rw [fold_length]; simp; omega, fun w g h => (sOf_any g l w hl h).mono fun e w' ⟨h1, h2⟩ => ⟨h1.elim (fun h => h.2) (fun h => absurd hg h.1), h2⟩, fun w g h => (iOf_any g l w hl h).mono fun e w' ⟨h1, h2⟩ => ⟨h1.elim (fun h => h.2) (fun h => absurd hg h.1), h2⟩⟩
  · exact ⟨[], false, by simp, fun w g h => (sOf_any g l w hl h).mono fun e w' ⟨h1, h2⟩ => ⟨h1.elim (fun h => absurd h.1 hg) (fun h => h.2), h2⟩, fun w g h => (iOf_any g l w hl h).mono fun e w' ⟨h1, h2⟩ => ⟨h1.elim (fun h => absurd h.1 hg) (fun h => h.2), h2⟩⟩
end Go.Proofs.Ythklekjglocbgaa
