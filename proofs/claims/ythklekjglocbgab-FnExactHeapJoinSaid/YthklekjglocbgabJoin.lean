/- Both HeapJoin; they give the same. -/
import Derived.Test.YthklekjglocbgabPushSome
import Derived.Test.YthklekjglocbgabHeapI
import Derived.Test.YthklekjglocbgabPushS
namespace Go.Proofs.Ythklekjglocbgab
open Go.RowKit
theorem kept_fold_iff {Q : Ev → Prop} : ∀ (l m : List Ev), Kept Q (l.foldl pushL m) ↔ Kept Q m ∧ ∀ e ∈ l, Q e
  | [], m => by simp
  | e :: l, m => by
    rw [List.foldl_cons, kept_fold_iff l, kept_pushL]
    simp only [List.mem_cons, forall_eq_or_imp]
    exact ⟨fun ⟨⟨a, b⟩, c⟩ => ⟨a, b, c⟩, fun ⟨a, b, c⟩ => ⟨⟨a, b⟩, c⟩⟩
theorem mem_take_at {l : List Ev} {k : Nat} {e : Ev} (h : e ∈ l.take k) : ∃ j, j < k ∧ j < l.length ∧ evAt l j = e := by
  obtain ⟨j, hj, rfl⟩ := List.mem_iff_getElem.1 h
  have hj' : j < k ∧ j < l.length := by simp at hj; omega
  exact ⟨j, hj'.1, hj'.2, by simp [evAt, hj'.2]⟩
theorem at_mem_take {l : List Ev} {k j : Nat} (h : j < k) (hl : j < l.length) : evAt l j ∈ l.take k := by
  rw [← evAt_take l k j h]
  have hj : j < (l.take k).length := by simp; omega
  have : evAt (l.take k) j = (l.take k)[j] := by simp [evAt, hl, h]
  rw [this]
  exact List.getElem_mem hj
theorem noTag_fold (l : List Ev) (k : Nat) (tag : Int) (hk : k ≤ l.length) : NoTag ((l.take k).foldl pushL []) tag ↔ ∀ j, j < k → (evAt l j).g ≠ tag := by
  have h := kept_fold_iff (Q := fun e => e.g ≠ tag) (l.take k) []
  constructor
  · intro hn j hj
    exact (h.1 hn).2 _ (at_mem_take hj (by omega))
  · intro hn
    refine h.2 ⟨fun j hj => by simp at hj, fun e he => ?_⟩
    obtain ⟨j, hj, _, rfl⟩ := mem_take_at he
    exact hn j hj
set_option maxHeartbeats 1000000 in
theorem find_nil (tag : Int) (w : World) : Calls Try.prog 34 #[.slice none 0 0, .int .i64 tag] w fun e w' => e = .returned (.int .i64 (-1)) ∧ w' = w := by
  go_enter Try.func34, Try.ntmps34
  go_wp2
  go_loop [5] (fun i => i = .int .i64 0) (fun _ => 0)
  case atStart => rfl
  case round =>
    subst hrel
    go_wp2
    go_ret
    exact ⟨rfl, rfl⟩
theorem find_own_none {B : Nat} {w : World} {o : Value} {m : List Ev} {tag : Int} (h : OwnR B w o m) (hl : m.length ≤ 1048576) (hn : NoTag m tag) : Calls Try.prog 34 #[o, .int .i64 tag] w fun e w' => e = .returned (.int .i64 (-1)) ∧ w' = w := by
  rcases h.src with ⟨rfl, _⟩ | ⟨b, off, cap, rfl, hev⟩
  · exact find_nil tag w
  · exact find_none b off cap m tag w hl hev hn
theorem find_own_some {B : Nat} {w : World} {o : Value} {m : List Ev} {tag : Int} {i : Nat} (h : OwnR B w o m) (hl : m.length ≤ 1048576) (hn : FirstAt m tag i) : Calls Try.prog 34 #[o, .int .i64 tag] w fun e w' => e = .returned (.int .i64 (i : Int)) ∧ w' = w := by
  rcases h.src with ⟨_, rfl⟩ | ⟨b, off, cap, rfl, hev⟩
  · exact absurd hn.1 (by simp)
  · exact find_some b off cap m tag i w hl hev hn
theorem take_succ_ev (l : List Ev) (k : Nat) (h : k < l.length) : l.take (k + 1) = l.take k ++ [evAt l k] := by
  rw [List.take_succ_eq_append_getElem h]
  simp [evAt, h]
theorem noTag_fold2 (l r : List Ev) (k : Nat) (tag : Int) (hk : k ≤ r.length) : NoTag ((r.take k).foldl pushL l) tag ↔ NoTag l tag ∧ ∀ j, j < k → (evAt r j).g ≠ tag := by
  have h := kept_fold_iff (Q := fun e => e.g ≠ tag) (r.take k) l
  constructor
  · intro hn
    exact ⟨(h.1 hn).1, fun j hj => (h.1 hn).2 _ (at_mem_take hj (by omega))⟩
  · rintro ⟨h1, hn⟩
    refine h.2 ⟨h1, fun e he => ?_⟩
    obtain ⟨j, hj, _, rfl⟩ := mem_take_at he
    exact hn j hj
def CanJ (l r : List Ev) : Prop := l.length + r.length ≤ 2000 ∧ ∀ i, i < r.length → NoTag l (evAt r i).g
def AnsJ (l r : List Ev) (B : Nat) (e : Ending) (w' : World) : Prop :=
  (¬ (GoodH l ∧ GoodH r) ∧ Answers B [] false e w') ∨ ((GoodH l ∧ GoodH r) ∧ CanJ l r ∧ Answers B (r.foldl pushL l) true e w') ∨ ((GoodH l ∧ GoodH r) ∧ ¬ CanJ l r ∧ Answers B l false e w')
set_option maxRecDepth 100000 in
set_option maxHeartbeats 8000000 in
theorem sJoin_any (g h : Nat) (l r : List Ev) (w : World) (hl : l.length ≤ 1048576) (hr : r.length ≤ 1048576) (hR : RowTo w g l.length l l.length) (hS : RowTo w h r.length r r.length) :
    Calls Try.prog 8 #[.slice (some ⟨g, 0, none⟩) l.length l.length, .slice (some ⟨h, 0, none⟩) r.length r.length] w fun e w' => AnsJ l r w.heap.size e w' ∧ Below w.heap.size w w' := by
  have HR : Hid (RowTo w g l.length l l.length) := hR
  have HS : Hid (RowTo w h r.length r r.length) := hS
  have hgw : g < w.heap.size := hR.1
  have hhw : h < w.heap.size := hS.1
  clear hR hS
  go_enter Try.func8, Try.ntmps8
  go_wp2_with fail
  refine (sHeap_any g 0 _ l _ hl (Nat.le_refl _) (by unfold maxLen; omega) HR.out.evs).mono ?_
  rintro e w1 ⟨⟨b1, rfl, hs1⟩, hb1⟩
  have HG1 : Hid (b1 = true ↔ GoodH l) := hs1
  have HB1 : Hid (Below w.heap.size w w1) := hb1
  have HR1 : Hid (RowTo w1 g l.length l l.length) := HR.out.below hb1 hgw
  have HS1 : Hid (RowTo w1 h r.length r r.length) := HS.out.below hb1 hhw
  clear hs1 hb1 HR HS
  cases b1
  · go_wp2
    go_ret2
    exact ⟨.inl ⟨fun hh => (by have := HG1.out.2 hh.1; cases this), _, rfl, OwnEvs.nil _ _⟩, HB1.out⟩
  go_wp2_with fail
  refine (sHeap_any h 0 _ r _ hr (Nat.le_refl _) (by unfold maxLen; omega) HS1.out.evs).mono ?_
  rintro e w2 ⟨⟨b2, rfl, hs2⟩, hb2⟩
  have HG2 : Hid (b2 = true ↔ GoodH r) := hs2
  have HB2 : Hid (Below w.heap.size w w2) := HB1.out.trans (hb2.mono HB1.out.size)
  have HR2 : Hid (RowTo w2 g l.length l l.length) := HR1.out.below hb2 HR1.out.1
  have HS2 : Hid (RowTo w2 h r.length r r.length) := HS1.out.below hb2 HS1.out.1
  clear hs2 hb2 HR1 HS1 HB1
  cases b2
  · go_wp2
    go_ret2
    exact ⟨.inl ⟨fun hh => (by have := HG2.out.2 hh.2; cases this), _, rfl, OwnEvs.nil _ _⟩, HB2.out⟩
  have HG : Hid (GoodH l ∧ GoodH r) := ⟨HG1.out.1 (by simp), HG2.out.1 (by simp)⟩
  have hl2 : l.length ≤ 2000 := HG.out.1.1
  have hr2 : r.length ≤ 2000 := HG.out.2.1
  clear HG1 HG2
  go_wp2_with fail
  refine (own_row _ l _ (by omega) HR2.out.src).mono ?_
  rintro e w3 ⟨y, rfl, hy, hb3⟩
  have HY : Hid (OwnR w2.heap.size w3 y l) := hy
  have HB3 : Hid (Below w2.heap.size w2 w3) := hb3
  clear hy hb3
  go_wp2
  go_loopw [6, 7] (fun o i wr => ∃ (k : Nat) (ao : Option Addr) (co : Nat), k ≤ r.length ∧ i = .int .i64 k ∧ o = .slice ao (l.length + k) co ∧ Hid (OwnR w2.heap.size wr o ((r.take k).foldl pushL l)) ∧ Hid (Below w2.heap.size w2 wr) ∧ Hid (∀ j, j < k → NoTag l (evAt r j).g) ∧ Hid (l.length + k ≤ 2000)) (fun _ i _ => r.length - (intOf i).toNat)
  case atStart =>
    obtain ⟨ao, co, e⟩ : ∃ ao co, y = .slice ao l.length co := by
      obtain ⟨_, ⟨e, h0⟩ | ⟨g', cap', cur, e, _⟩⟩ := HY.out
      · exact ⟨none, 0, by rw [e, h0]⟩
      · exact ⟨_, cap', e⟩
    exact ⟨0, ao, co, Nat.zero_le _, rfl, e, HY.out, HB3.out, fun j hj => by omega, hl2⟩
  case round =>
    clear HY HB3
    obtain ⟨k, ao, co, hk, rfl, rfl, HO, HB, HN, HL⟩ := hrel
    have hlk : l.length + k ≤ 2000 := HL.out
    have HB9 : Hid (Below w.heap.size w wr) := HB2.out.trans (HB.out.mono HB2.out.size)
    by_cases hlt : k < r.length
    · have hkn : (k : Int) < (r.length : Int) := by omega
      have HR3 : Hid (RowTo wr g l.length l l.length) := HR2.out.below HB.out HR2.out.1
      have HS3 : Hid (RowTo wr h r.length r r.length) := HS2.out.below HB.out HS2.out.1
      have hfl : ((r.take k).foldl pushL l).length = l.length + k := by rw [fold_length]; simp; omega
      have HFL : Hid (((r.take k).foldl pushL l).length = l.length + k) := hfl
      clear hfl
      obtain ⟨f0, f1, f2, f3, f4, f5, f6⟩ := HS3.out.2.2 k hlt
      have HDJ : Hid (∀ j, j < k → (evAt r j).g ≠ (evAt r k).g) := (HG.out.2.2 k hlt).2.2
      rcases firstAt_or ((r.take k).foldl pushL l) (evAt r k).g with ⟨i, hfi⟩ | hno
      · have HFI : Hid (FirstAt ((r.take k).foldl pushL l) (evAt r k).g i) := hfi
        have hdi : (0 : Int) ≤ (i : Int) := by omega
        have hdi2 : decide ((0 : Int) ≤ (i : Int)) = true := by simp
        clear hfi
        go_wp2_with fail
        refine (find_own_some HO.out (by rw [HFL.out]; omega) HFI.out).mono ?_
        rintro e w4 ⟨rfl, hw⟩
        have hw' := hw.symm
        clear hw
        subst hw'
        go_wp2_with fail
        refine (own_row _ l _ (by omega) HR3.out.src).mono ?_
        rintro e w5 ⟨z, rfl, hz5, hb5⟩
        have HZ : Hid (OwnR wr.heap.size w5 z l) := hz5
        have HB5 : Hid (Below w.heap.size w w5) := HB9.out.trans (hb5.mono HB9.out.size)
        clear hz5 hb5
        go_wp2
        go_ret2
        refine ⟨.inr (.inr ⟨HG.out, fun hc => ?_, ans_of HB9.out HB9.out.size HZ.out⟩), HB5.out⟩
        exact ((noTag_fold2 l r k (evAt r k).g hk).2 ⟨hc.2 k hlt, HDJ.out⟩) i HFI.out.1 HFI.out.2.1
      · have HNO : Hid (NoTag ((r.take k).foldl pushL l) (evAt r k).g) := hno
        clear hno
        by_cases hfull : l.length + k < 2000
        · have hf1 : ¬ ((2000 : Int) ≤ (l.length : Int) + (k : Int)) := by omega
          have hf2 : decide ((2000 : Int) ≤ (l.length : Int) + (k : Int)) = false := by simp; omega
          go_wp2_with fail
          refine (find_own_none HO.out (by rw [HFL.out]; omega) HNO.out).mono ?_
          rintro e w4 ⟨rfl, hw⟩
          have hw' := hw.symm
          clear hw
          subst hw'
          go_wp2_with fail
          refine (sPush_any _ ((r.take k).foldl pushL l) (evAt r k) _ (by rw [HFL.out]; omega) HO.out.src).mono ?_
          rintro e w5 ⟨z, rfl, hz5, hb5⟩
          have HZ : Hid (OwnR w2.heap.size w5 z ((r.take (k + 1)).foldl pushL l)) := by
            unfold Hid; rw [take_succ_ev r k hlt, List.foldl_append]; exact hz5.mono HB.out.size
          have HB5 : Hid (Below w2.heap.size w2 w5) := HB.out.trans (hb5.mono HB.out.size)
          clear hz5 hb5 f0 f1 f2 f3 f4 f5 f6
          obtain ⟨ao', co', rfl⟩ : ∃ ao co, z = .slice ao (l.length + (k + 1)) co := by
            have hz9 : ((r.take (k + 1)).foldl pushL l).length = l.length + (k + 1) := by rw [fold_length]; simp; omega
            obtain ⟨_, ⟨e, h0⟩ | ⟨g', cap', cur, e, _⟩⟩ := HZ.out
            · omega
            · exact ⟨_, cap', by rw [e, hz9]⟩
          go_wp2
          go_roundw
          case rel => exact ⟨k + 1, ao', co', by omega, by go_num, rfl, HZ.out, HB5.out, fun j hj => by
            by_cases e9 : j = k
            · subst e9; exact ((noTag_fold2 l r j _ hk).1 HNO.out).1
            · exact HN.out j (by omega), by unfold Hid; omega⟩
          case measure => simp [intOf]; omega
        · have hf1 : (2000 : Int) ≤ (l.length : Int) + (k : Int) := by omega
          have hf2 : decide ((2000 : Int) ≤ (l.length : Int) + (k : Int)) = true := by simp; omega
          go_wp2_with fail
          refine (find_own_none HO.out (by rw [HFL.out]; omega) HNO.out).mono ?_
          rintro e w4 ⟨rfl, hw⟩
          have hw' := hw.symm
          clear hw
          subst hw'
          go_wp2_with fail
          refine (own_row _ l _ (by omega) HR3.out.src).mono ?_
          rintro e w5 ⟨z, rfl, hz5, hb5⟩
          have HZ : Hid (OwnR wr.heap.size w5 z l) := hz5
          have HB5 : Hid (Below w.heap.size w w5) := HB9.out.trans (hb5.mono HB9.out.size)
          clear hz5 hb5
          go_wp2
          go_ret2
          exact ⟨.inr (.inr ⟨HG.out, fun hc => by have := hc.1; omega, ans_of HB9.out HB9.out.size HZ.out⟩), HB5.out⟩
    · obtain rfl : k = r.length := by omega
      go_wp2
      go_ret2
      have h9 := HO.out
      rw [List.take_length] at h9
      exact ⟨.inr (.inl ⟨HG.out, ⟨HL.out, HN.out⟩, _, rfl, (h9.mono HB2.out.size).own⟩), HB9.out⟩
set_option maxRecDepth 100000 in
set_option maxHeartbeats 8000000 in
theorem iJoin_any (g h : Nat) (l r : List Ev) (w : World) (hl : l.length ≤ 1048576) (hr : r.length ≤ 1048576) (hR : RowTo w g l.length l l.length) (hS : RowTo w h r.length r r.length) :
    Calls Try.prog 10 #[.slice (some ⟨g, 0, none⟩) l.length l.length, .slice (some ⟨h, 0, none⟩) r.length r.length] w fun e w' => AnsJ l r w.heap.size e w' ∧ Below w.heap.size w w' := by
  have HR : Hid (RowTo w g l.length l l.length) := hR
  have HS : Hid (RowTo w h r.length r r.length) := hS
  have hgw : g < w.heap.size := hR.1
  have hhw : h < w.heap.size := hS.1
  clear hR hS
  have hme := fun w P => m_events P w
  go_enter Try.func10, Try.ntmps10
  go_wp2_with fail
  refine (iHeap_any g 0 _ l _ hl HR.out.evs).mono ?_
  rintro e w1 ⟨⟨b1, rfl, hs1⟩, hb1⟩
  have HG1 : Hid (b1 = true ↔ GoodH l) := hs1
  have HB1 : Hid (Below w.heap.size w w1) := hb1
  have HR1 : Hid (RowTo w1 g l.length l l.length) := HR.out.below hb1 hgw
  have HS1 : Hid (RowTo w1 h r.length r r.length) := HS.out.below hb1 hhw
  clear hs1 hb1 HR HS
  cases b1
  · go_wp2
    go_ret2
    exact ⟨.inl ⟨fun hh => (by have := HG1.out.2 hh.1; cases this), _, rfl, OwnEvs.nil _ _⟩, HB1.out⟩
  go_wp2_with fail
  refine (iHeap_any h 0 _ r _ hr HS1.out.evs).mono ?_
  rintro e w2 ⟨⟨b2, rfl, hs2⟩, hb2⟩
  have HG2 : Hid (b2 = true ↔ GoodH r) := hs2
  have HB2 : Hid (Below w.heap.size w w2) := HB1.out.trans (hb2.mono HB1.out.size)
  have HR2 : Hid (RowTo w2 g l.length l l.length) := HR1.out.below hb2 HR1.out.1
  have HS2 : Hid (RowTo w2 h r.length r r.length) := HS1.out.below hb2 HS1.out.1
  clear hs2 hb2 HR1 HS1 HB1
  cases b2
  · go_wp2
    go_ret2
    exact ⟨.inl ⟨fun hh => (by have := HG2.out.2 hh.2; cases this), _, rfl, OwnEvs.nil _ _⟩, HB2.out⟩
  have HG : Hid (GoodH l ∧ GoodH r) := ⟨HG1.out.1 (by simp), HG2.out.1 (by simp)⟩
  have hl2 : l.length ≤ 2000 := HG.out.1.1
  have hr2 : r.length ≤ 2000 := HG.out.2.1
  clear HG1 HG2
  go_wp2_with fail
  refine (pileOf_any _ l _ (by omega) HR2.out.src).mono ?_
  rintro e w3 ⟨P, v, rfl, hp3, hb3⟩
  have HB3 : Hid (Below w2.heap.size w2 w3) := hb3
  have HS3 : Hid (RowTo w3 h r.length r r.length) := HS2.out.below hb3 HS2.out.1
  have hh2 : h < w2.heap.size := HS2.out.1
  have HLO : Hid (w2.heap.size ≤ P ∧ ∀ k, v.ownBlock = some k → w2.heap.size ≤ k) := ⟨hp3.low, fun k e => (OwnR.block hp3.row e).1⟩
  by_cases hsum : l.length + r.length ≤ 2000
  · by_cases hno : ∀ i, i < r.length → NoTag l (evAt r i).g
    · have HNO : Hid (∀ i, i < r.length → NoTag l (evAt r i).g) := hno
      clear hno
      have HPA : Hid (Calls Try.prog 38 #[pv P, .slice (some ⟨h, 0, none⟩) r.length r.length] w3 fun e w' => e = .returned (.bool true) ∧ (∃ v', Pl w' w2.heap.size P v' (r.foldl pushL l) ∧ NewRow w3 v v') ∧ Turns (fun k => k = P ∨ v.ownBlock = some k) w3 w') := pushAll_ok w2.heap.size P v l (some ⟨h, 0, none⟩) r.length h r w3 hr2 hb3.size hp3 (.inr ⟨0, rfl, HS3.out.evs⟩) HS3.out.1 (by have := HLO.out.1; omega) (fun e9 => by have := HLO.out.2 _ e9; omega) hsum HG.out.1.oks (fun i hi => (HG.out.2.2 i hi).1) HNO.out
      clear hp3 hb3
      go_wp2_with fail
      refine HPA.out.mono ?_
      rintro e w4 ⟨rfl, ⟨v4, hp4, _⟩, ht4⟩
      have HP4 : Hid (Pl w4 w2.heap.size P v4 (r.foldl pushL l)) := hp4
      have HB4 : Hid (Below w.heap.size w w4) := HB2.out.trans ((HB3.out.trans (ht4.to_below (fun k hh => by rcases hh with rfl | hh; exact HLO.out.1; exact HLO.out.2 k hh) HB3.out.size)).mono HB2.out.size)
      clear hp4 ht4 HPA
      go_wp2_with fail
      refine (events_any w2.heap.size P v4 (r.foldl pushL l) _ (by rw [fold_length]; omega) HP4.out).mono ?_
      rintro e w5 ⟨y, rfl, hy, hb5⟩
      have HY : Hid (OwnR w4.heap.size w5 y (r.foldl pushL l)) := hy
      have HB5 : Hid (Below w.heap.size w w5) := HB4.out.trans (hb5.mono HB4.out.size)
      clear hy hb5
      go_wp2
      go_ret2
      exact ⟨.inr (.inl ⟨HG.out, ⟨hsum, HNO.out⟩, ans_of HB4.out HB4.out.size HY.out⟩), HB5.out⟩
    · obtain ⟨q, hq, hqn⟩ : ∃ q, q < r.length ∧ ¬ NoTag l (evAt r q).g := Classical.byContradiction fun hx => hno fun i hi => Classical.byContradiction fun hy => hx ⟨i, hi, hy⟩
      have HQ : Hid (¬ NoTag l (evAt r q).g) := hqn
      clear hno hqn
      have HPA : Hid (Calls Try.prog 38 #[pv P, .slice (some ⟨h, 0, none⟩) r.length r.length] w3 fun e w' => e = .returned (.bool false) ∧ Pl w' w2.heap.size P v l ∧ Below w3.heap.size w3 w') := pushAll_some w2.heap.size P v l (some ⟨h, 0, none⟩) r.length h r w3 q hr2 hb3.size hp3 (.inr ⟨0, rfl, HS3.out.evs⟩) HS3.out.1 hsum HG.out.1.oks (fun i hi => (HG.out.1.2 i hi).2.2) (fun i hi => (HG.out.2.2 i hi).1) hq HQ.out
      clear hp3 hb3
      go_wp2_with fail
      refine HPA.out.mono ?_
      rintro e w4 ⟨rfl, hp4, ht4⟩
      have HP4 : Hid (Pl w4 w2.heap.size P v l) := hp4
      have HB4 : Hid (Below w.heap.size w w4) := HB2.out.trans ((HB3.out.trans (ht4.mono HB3.out.size)).mono HB2.out.size)
      clear hp4 ht4 HPA
      go_wp2_with fail
      refine (events_any w2.heap.size P v l _ (by omega) HP4.out).mono ?_
      rintro e w5 ⟨y, rfl, hy, hb5⟩
      have HY : Hid (OwnR w4.heap.size w5 y l) := hy
      have HB5 : Hid (Below w.heap.size w w5) := HB4.out.trans (hb5.mono HB4.out.size)
      clear hy hb5
      go_wp2
      go_ret2
      exact ⟨.inr (.inr ⟨HG.out, fun hc => HQ.out (hc.2 q hq), ans_of HB4.out HB4.out.size HY.out⟩), HB5.out⟩
  · have HPA : Hid (Calls Try.prog 38 #[pv P, .slice (some ⟨h, 0, none⟩) r.length r.length] w3 fun e w' => e = .returned (.bool false) ∧ Pl w' w2.heap.size P v l ∧ Below w3.heap.size w3 w') := pushAll_full w2.heap.size P v l (some ⟨h, 0, none⟩) r.length r w3 hr2 hb3.size hp3 (by omega) (by omega)
    clear hp3 hb3
    go_wp2_with fail
    refine HPA.out.mono ?_
    rintro e w4 ⟨rfl, hp4, ht4⟩
    have HP4 : Hid (Pl w4 w2.heap.size P v l) := hp4
    have HB4 : Hid (Below w.heap.size w w4) := HB2.out.trans ((HB3.out.trans (ht4.mono HB3.out.size)).mono HB2.out.size)
    clear hp4 ht4 HPA
    go_wp2_with fail
    refine (events_any w2.heap.size P v l _ (by omega) HP4.out).mono ?_
    rintro e w5 ⟨y, rfl, hy, hb5⟩
    have HY : Hid (OwnR w4.heap.size w5 y l) := hy
    have HB5 : Hid (Below w.heap.size w w5) := HB4.out.trans (hb5.mono HB4.out.size)
    clear hy hb5
    go_wp2
    go_ret2
    exact ⟨.inr (.inr ⟨HG.out, fun hc => hsum hc.1, ans_of HB4.out HB4.out.size HY.out⟩), HB5.out⟩
end Go.Proofs.Ythklekjglocbgab
