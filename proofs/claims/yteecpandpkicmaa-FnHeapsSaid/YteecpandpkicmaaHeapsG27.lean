/- HQ, HeapT -/
import Derived.Test.YteecpandpkicmaaHeapsG26
import Derived.Test.YteecpandpkicmaaHeapsG01
/- What is drawn for heaps: l0draw, DrawHeapPush. -/
namespace Go.Proofs.Yteecpandpkicmaa
open Go.RowKit
set_option maxRecDepth 100000 in
set_option maxHeartbeats 4000000 in
theorem heapDraw_any (c : Nat) (fr : Int) (w : World) (H : Cur w c) :
    Calls Try.prog 39 #[.pointer (some ⟨c, 0, none⟩), .int .i64 fr] w fun r w' => ∃ v l, r = .returned v ∧ OwnR w.heap.size w' v l ∧ l.length ≤ 10 ∧ Cur w' c ∧ Turns (fun k => k = c) w w' := by
  have hcw := H.lt
  have HC : Hid (Cur w c) := H
  clear H
  obtain ⟨i0, hi, hz0, hz1, hz2⟩ := info_parts info25
  go_enter Try.func39, Try.ntmps39
  go_wp2_with fail
  refine (below_any c _ _ HC.out).mono ?_
  rintro r w1 ⟨x, rfl, hx0, hx1, hC1, hT1⟩
  have hx8 := hx1 (by omega)
  obtain ⟨m, rfl⟩ : ∃ m : Nat, x = (m : Int) := ⟨x.toNat, by omega⟩
  have hm : m ≤ 9 := by omega
  have HC1 : Hid (Cur w1 c) := hC1
  have HT1 : Hid (Turns (fun k => k = c) w w1) := hT1
  clear hC1 hT1 hx1 hx8 hx0
  go_wp2
  go_loopw [5, 7] (fun o i wr => ∃ (k : Nat) (v : Value) (l : List Ev), k ≤ m ∧ v = o ∧ i = .int .i64 k ∧ OwnR w.heap.size wr v l ∧ l.length ≤ k ∧ Cur wr c ∧ Turns (fun k => k = c) w wr) (fun _ i _ => m - (intOf i).toNat)
  case atStart => exact ⟨0, _, [], Nat.zero_le _, rfl, rfl, OwnR.nil _ _, Nat.le_refl _, HC1.out, HT1.out⟩
  case round =>
    obtain ⟨k, v, l, hk, rfl, rfl, hR, hlk, hCr, hTr⟩ := hrel
    have HR : Hid (OwnR w.heap.size wr v l) := hR
    have HCr : Hid (Cur wr c) := hCr
    have HTr : Hid (Turns (fun k => k = c) w wr) := hTr
    clear hR hCr hTr HC1 HT1
    by_cases hlt : k < m
    · go_wp2_with fail
      refine (draw_any c _ HCr.out).mono ?_
      rintro r w2 ⟨e, rfl, hC2, hT2⟩
      have HC2 : Hid (Cur w2 c) := hC2
      have HT2 : Hid (Turns (fun k => k = c) w w2) := HTr.out.trans hT2
      have HR2 : Hid (OwnR w.heap.size w2 v l) := HR.out.turns hT2 (fun k hk => by omega)
      clear hC2 hT2 HCr HTr HR
      obtain ⟨f0, f1, f2, f3, f4, f5, f6⟩ := (Bx.new w2 25 e).ev
      simp only [Nat.zero_add] at f1 f2 f3 f4 f5 f6
      go_wp2_with fail
      clear f0 f1 f2 f3 f4 f5 f6
      generalize wrap64 (e.g + fr) = gg
      have HR2a : Hid (OwnR w.heap.size (w2.alloc (.cells #[.int .i64 e.t, .int .i64 e.s, .int .i64 e.q, .int .i64 e.d, .int .i64 e.k, .int .i64 e.v, .int .i64 gg] 25)) v l) := HR2.out.turns ((Turns.refl (fun _ => False) w2).alloc _) (fun _ h => h.elim)
      have hl5 : l.length ≤ 1048576 := by omega
      refine (find_row gg HR2a.out hl5).mono ?_
      rintro r w3 ⟨⟨x, rfl⟩, hw3⟩
      obtain rfl := hw3.symm
      clear hw3
      obtain ⟨⟨f0, f1, f2, f3, f4, f5, f6⟩, _, _⟩ := Bx.new w2 25 ⟨e.t, e.s, e.q, e.d, e.k, e.v, gg⟩
      simp only [Nat.zero_add] at f1 f2 f3 f4 f5 f6
      by_cases hx : x < 0
      · go_wp2_with fail
        refine (sPush_any v l ⟨e.t, e.s, e.q, e.d, e.k, e.v, gg⟩ _ (by omega) HR2a.out.src).mono ?_
        rintro r w4 ⟨y, rfl, hR4, hB4⟩
        have hl4 := pushL_length l ⟨e.t, e.s, e.q, e.d, e.k, e.v, gg⟩
        have HR4 : Hid (OwnR w.heap.size w4 y (pushL l ⟨e.t, e.s, e.q, e.d, e.k, e.v, gg⟩)) := hR4.mono (by have := HT2.out.size; simp; omega)
        have HC4 : Hid (Cur w4 c) := (HC2.out.alloc _).below hB4 (by have := HT2.out.size; simp; omega)
        have HT4 : Hid (Turns (fun k => k = c) w w4) := (HT2.out.alloc _).trans (Turns.of_below hB4)
        clear hR4 hB4
        go_wp2
        go_roundw
        case rel => exact ⟨k + 1, _, _, by omega, rfl, by go_num, HR4.out, by omega, HC4.out, HT4.out⟩
        case measure => simp [intOf]; omega
      · go_wp2
        go_roundw
        case rel => exact ⟨k + 1, _, l, by omega, rfl, by go_num, HR2a.out, by omega, HC2.out.alloc _, HT2.out.alloc _⟩
        case measure => simp [intOf]; omega
    · go_wp2_with fail
      refine (once_any c _ _ HCr.out).mono ?_
      rintro r w2 ⟨x, rfl, hC2, hT2⟩
      have HC2 : Hid (Cur w2 c) := hC2
      have HT2 : Hid (Turns (fun k => k = c) w w2) := HTr.out.trans hT2
      have HR2 : Hid (OwnR w.heap.size w2 v l) := HR.out.turns hT2 (fun k hk => by omega)
      clear hC2 hT2 HCr HTr HR
      cases x with
      | false =>
        go_wp2
        go_ret
        exact ⟨v, l, rfl, HR2.out, by omega, HC2.out, HT2.out⟩
      | true =>
        go_wp2_with fail
        refine (bent_any c _ HC2.out).mono ?_
        rintro r w3 ⟨e, rfl, hC3, hT3⟩
        have HC3 : Hid (Cur w3 c) := hC3
        have HT3 : Hid (Turns (fun k => k = c) w w3) := HT2.out.trans hT3
        have HR3 : Hid (OwnR w.heap.size w3 v l) := HR2.out.turns hT3 (fun k hk => by omega)
        have hs3 := HT3.out.size
        clear hC3 hT3 HC2 HT2 HR2
        go_wp2_with (at_builtin; refine wpList_append_own _ rfl _ _ 23 rfl w.heap.size 25 i0 _ 7 56 Try.underlying23 hi hz0 hz1 hz2 rfl (by decide) v _ _ rfl (World.ownsRow.alloc HR3.out _) ⟨w3.heap.size, 0, none⟩ 1 1 e.cs rfl rfl (Ev.In.cells (EvAt.new _ _ _ _ _ _ _ _ _)) (Ev.cs_one e) (by unfold maxLen; omega) (by omega) (by simp; omega) ?_; intro v' w4 hown hgrow hnil)
        go_ret
        have hB4 : Below (w3.heap.size) w3 (w3.alloc (.cells #[.int .i64 e.t, .int .i64 e.s, .int .i64 e.q, .int .i64 e.d, .int .i64 e.k, .int .i64 e.v, .int .i64 e.g] 25)) := (Below.refl _ w3).alloc (Nat.le_refl _) _
        have hT4 : Turns (fun k => w.heap.size ≤ k) (w3.alloc (.cells #[.int .i64 e.t, .int .i64 e.s, .int .i64 e.q, .int .i64 e.d, .int .i64 e.k, .int .i64 e.v, .int .i64 e.g] 25)) w4 := ⟨hgrow.os, hgrow.tape, hgrow.output, hgrow.size, fun j hj hn => hgrow.block j hj (fun er => hn (row_ge HR3.out er.symm))⟩
        refine ⟨v', l ++ [e], rfl, ?_, by simp; omega, (HC3.out.alloc _).below (B := w.heap.size) (hT4.to_below (fun k hk => hk) (by simp; omega)) hcw, ?_⟩
        · unfold OwnR
          rw [List.length_append, cellsL_append]
          simpa [cellsL] using hown
        · exact (((HT3.out.alloc _).mono (S' := fun k => k = c ∨ w.heap.size ≤ k) (fun k hk => .inl hk)).trans (hT4.mono (fun k hk => .inr hk))).old (fun k hk h => h.resolve_right (by omega))
set_option maxHeartbeats 4000000 in
theorem drawPush_any (a : Option Addr) (n cap : Nat) (w : World) (hn : n ≤ 281474976710656) (hC : CodeIn w w.heap.size a n) :
    Calls Try.prog 14 #[.slice a n cap] w fun r w' => ∃ v l, ∃ e : Ev, r = .returned (.tuple #[v, e.val]) ∧ OwnR w.heap.size w' v l ∧ l.length ≤ 10 ∧ Below w.heap.size w w' := by
  have HC : Hid (CodeIn w w.heap.size a n) := hC
  clear hC
  have HB0 : Hid (Below w.heap.size w (w.alloc (.cells #[.int .i64 0, .int .i64 0, .int .i64 0, .int .i64 0, .int .i64 0, .int .i64 0, .int .i64 0] 25))) := (Below.refl _ w).alloc (Nat.le_refl _) _
  have HX0 : Hid (Bx (w.alloc (.cells #[.int .i64 0, .int .i64 0, .int .i64 0, .int .i64 0, .int .i64 0, .int .i64 0, .int .i64 0] 25)) w.heap.size ⟨0, 0, 0, 0, 0, 0, 0⟩) := Bx.new w 25 ⟨0, 0, 0, 0, 0, 0, 0⟩
  go_enter Try.func14, Try.ntmps14
  go_wp2_with fail
  refine (new_any a n cap _ hn ((HC.out.below HB0.out (Nat.le_refl _)).mono HB0.out.size)).mono ?_
  rintro r w1 ⟨c, rfl, hc, hC1, hB1⟩
  have HC1 : Hid (Cur w1 c) := hC1
  have HB1 : Hid (Below w.heap.size w w1) := HB0.out.trans (hB1.mono HB0.out.size)
  have HX1 : Hid (Bx w1 w.heap.size ⟨0, 0, 0, 0, 0, 0, 0⟩) := HX0.out.turns (S := fun _ => False) (Turns.of_below hB1) id
  have hcw : w.heap.size < c := by simp at hc; omega
  clear hC1 hB1 HX0 HB0
  go_wp2_with fail
  refine (heapDraw_any c 0 _ HC1.out).mono ?_
  rintro r w2 ⟨v, l, rfl, hR2, hl2, hC2, hT2⟩
  have HC2 : Hid (Cur w2 c) := hC2
  have HX2 : Hid (Bx w2 w.heap.size ⟨0, 0, 0, 0, 0, 0, 0⟩) := HX1.out.turns hT2 (by omega)
  have HR2 : Hid (OwnR w1.heap.size w2 v l) := hR2
  have HB2 : Hid (Below w.heap.size w w2) := HB1.out.trans (hT2.to_below (fun k hk => by omega) HB1.out.size)
  have hcw1 : c < w1.heap.size := HC1.out.lt
  have hw1 : w.heap.size ≤ w1.heap.size := HB1.out.size
  clear hC2 hR2 hT2 HX1 HC1
  go_wp2_with fail
  refine (bent_any c _ HC2.out).mono ?_
  rintro r w3 ⟨e, rfl, hC3, hT3⟩
  have HX3 : Hid (Bx w3 w.heap.size ⟨0, 0, 0, 0, 0, 0, 0⟩) := HX2.out.turns hT3 (by omega)
  have HR3 : Hid (OwnR w1.heap.size w3 v l) := HR2.out.turns hT3 (fun k hk => by omega)
  have HB3 : Hid (Below w.heap.size w w3) := HB2.out.trans (hT3.to_below (fun k hk => by omega) HB2.out.size)
  clear hC3 hT3 HX2 HR2 HB1 HB2
  obtain ⟨⟨f0, f1, f2, f3, f4, f5, f6⟩, hfz, hlt⟩ := HX3.out
  simp only [Nat.zero_add] at f1 f2 f3 f4 f5 f6
  go_wp2
  refine bodyPost_ret (v := .tuple #[v, e.val]) (by simp [results, Try.results14, go_sem, f0, f1, f2, f3, f4, f5, f6]) rfl ⟨v, l, e, rfl, ?_, hl2, ?_⟩
  · have hne : ∀ k, (fun k => k = w.heap.size) k → k < w1.heap.size := fun k hk => by have : k = w.heap.size := hk; omega
    exact ((HR3.out.turns ((((((((Turns.refl (fun k => k = w.heap.size) w3).setCell (p := ⟨w.heap.size, 0, none⟩) rfl _).setCell (p := ⟨w.heap.size, 1, none⟩) rfl _).setCell (p := ⟨w.heap.size, 2, none⟩) rfl _).setCell (p := ⟨w.heap.size, 3, none⟩) rfl _).setCell (p := ⟨w.heap.size, 4, none⟩) rfl _).setCell (p := ⟨w.heap.size, 5, none⟩) rfl _).setCell (p := ⟨w.heap.size, 6, none⟩) rfl _) hne).mono hw1)
  · exact ((((((HB3.out.setCell (Nat.le_refl _) _).setCell (Nat.le_refl _) _).setCell (Nat.le_refl _) _).setCell (Nat.le_refl _) _).setCell (Nat.le_refl _) _).setCell (Nat.le_refl _) _).setCell (Nat.le_refl _) _

end Go.Proofs.Yteecpandpkicmaa

/- Heaps as plain lists: lifting and sinking leave a heap; what is popped first is ahead of all; what is popped one behind the other is in order; two orders of the same events are one. -/
namespace Go.Proofs.Yteecpandpkicmaa

/- a is not behind b. -/
def Le (a b : Ev) : Prop := ¬ b.cmp a < 0
theorem Le.trans {a b c : Ev} (h : Le a b) (k : Le b c) : Le a c := cmp_neg k h
theorem Le.of_lt {a b : Ev} (h : a.cmp b < 0) : Le a b := cmp_asymm h
theorem Le.refl (a : Ev) : Le a a := fun h => cmp_asymm h h
theorem Le.lt {a b : Ev} (h : Le a b) (hg : a.g ≠ b.g) : a.cmp b < 0 := by
  unfold Le Ev.cmp at *
  rw [cmpI_lt] at *
  omega
def HeapW (l : List Ev) : Prop := ∀ i, 0 < i → i < l.length → Le (evAt l ((i - 1) / 2)) (evAt l i)
def Uni (l : List Ev) : Prop := ∀ i j, i < l.length → j < l.length → (evAt l i).g = (evAt l j).g → i = j

/- Lifting. -/
def UpAt (l : List Ev) (i : Nat) : Prop := (∀ j, 0 < j → j < l.length → j ≠ i → Le (evAt l ((j - 1) / 2)) (evAt l j)) ∧ (0 < i → ∀ j, 0 < j → j < l.length → (j - 1) / 2 = i → Le (evAt l ((i - 1) / 2)) (evAt l j))
theorem up_heap (l : List Ev) (i : Nat) (hi : i < l.length) (h : UpAt l i) : HeapW (upL l i) := by
  induction i using Nat.strongRecOn generalizing l with
  | _ i ih =>
    obtain ⟨h1, h2⟩ := h
    by_cases hc : 0 < i ∧ (evAt l i).cmp (evAt l ((i - 1) / 2)) < 0
    · rw [upL_go hc.1 hc.2]
      obtain ⟨h0, hlt⟩ := hc
      generalize hp : (i - 1) / 2 = p at hlt h2 ⊢
      have hpi : p < i := by omega
      have hsw : ∀ j, evAt (swp l i p) j = if p = j then evAt l i else if i = j then evAt l p else evAt l j := fun j => evAt_swp l i p j hi (by omega)
      refine ih p hpi _ (by rw [swp_length]; omega) ⟨fun j hj0 hj hjp => ?_, fun hp0 j hj0 hj hjp => ?_⟩
      · rw [swp_length] at hj
        by_cases hji : j = i
        · subst hji
          rw [hp, hsw p, if_pos rfl, hsw j, if_neg (by omega), if_pos rfl]
          exact Le.of_lt hlt
        · rw [hsw j, if_neg (by omega), if_neg (by omega)]
          by_cases hq : (j - 1) / 2 = p
          · rw [hq, hsw p, if_pos rfl]
            have := h1 j hj0 hj hji
            rw [hq] at this
            exact (Le.of_lt hlt).trans this
          · by_cases hq' : (j - 1) / 2 = i
            · rw [hq', hsw i, if_neg (by omega), if_pos rfl]
              exact h2 h0 j hj0 hj hq'
            · rw [hsw, if_neg (by omega), if_neg (by omega)]
              exact h1 j hj0 hj hji
      · rw [swp_length] at hj
        rw [hsw ((p - 1) / 2), if_neg (by omega), if_neg (by omega)]
        have hpp := h1 p hp0 (by omega) (by omega)
        by_cases hji : j = i
        · subst hji
          rw [hsw j, if_neg (by omega), if_pos rfl]
          exact hpp
        · rw [hsw j, if_neg (by omega), if_neg (by omega)]
          have := h1 j hj0 hj hji
          rw [hjp] at this
          exact hpp.trans this
    · rw [upL_stop hc]
      intro j hj0 hj
      by_cases hji : j = i
      · subst hji
        exact fun h => hc ⟨hj0, h⟩
      · exact h1 j hj0 hj hji
theorem push_heap {l : List Ev} {e : Ev} (h : HeapW l) : HeapW (pushL l e) := by
  unfold pushL
  refine up_heap _ _ (by simp) ⟨fun j hj0 hj hji => ?_, fun h0 j hj0 hj hji => ?_⟩
  · simp at hj
    rw [evAt_left _ _ _ (by omega), evAt_left _ _ _ (by omega)]
    exact h j hj0 (by omega)
  · simp at hj
    omega

/- Sinking. -/
theorem pick_min (l : List Ev) (n i : Nat) : (pickL l n i = i ∨ ((pickL l n i = 2 * i + 1 ∨ pickL l n i = 2 * i + 2) ∧ pickL l n i < n ∧ (evAt l (pickL l n i)).cmp (evAt l i) < 0)) ∧ ∀ j, (j = 2 * i + 1 ∨ j = 2 * i + 2) → j < n → Le (evAt l (pickL l n i)) (evAt l j) := by
  unfold pickL
  by_cases h1 : 2 * i + 1 < n ∧ (evAt l (2 * i + 1)).cmp (evAt l i) < 0
  · rw [if_pos h1]
    by_cases h2 : 2 * i + 2 < n ∧ (evAt l (2 * i + 2)).cmp (evAt l (2 * i + 1)) < 0
    · rw [if_pos h2]
      refine ⟨.inr ⟨.inr rfl, h2.1, cmp_trans h2.2 h1.2⟩, fun j hj hn => ?_⟩
      rcases hj with rfl | rfl
      · exact Le.of_lt h2.2
      · exact Le.refl _
    · rw [if_neg h2]
      refine ⟨.inr ⟨.inl rfl, h1.1, h1.2⟩, fun j hj hn => ?_⟩
      rcases hj with rfl | rfl
      · exact Le.refl _
      · exact fun h => h2 ⟨hn, h⟩
  · rw [if_neg h1]
    by_cases h2 : 2 * i + 2 < n ∧ (evAt l (2 * i + 2)).cmp (evAt l i) < 0
    · rw [if_pos h2]
      refine ⟨.inr ⟨.inr rfl, h2.1, h2.2⟩, fun j hj hn => ?_⟩
      rcases hj with rfl | rfl
      · exact (Le.of_lt h2.2).trans (fun h => h1 ⟨hn, h⟩)
      · exact Le.refl _
    · rw [if_neg h2]
      refine ⟨.inl rfl, fun j hj hn => ?_⟩
      rcases hj with rfl | rfl
      · exact fun h => h1 ⟨hn, h⟩
      · exact fun h => h2 ⟨hn, h⟩
def BothAt (l : List Ev) (i : Nat) : Prop := (∀ j, 0 < j → j < l.length → j ≠ i → (j - 1) / 2 ≠ i → Le (evAt l ((j - 1) / 2)) (evAt l j)) ∧ (0 < i → ∀ j, 0 < j → j < l.length → (j - 1) / 2 = i → Le (evAt l ((i - 1) / 2)) (evAt l j))
def DownAt (l : List Ev) (i : Nat) : Prop := (∀ j, 0 < j → j < l.length → (j - 1) / 2 ≠ i → Le (evAt l ((j - 1) / 2)) (evAt l j)) ∧ (0 < i → ∀ j, 0 < j → j < l.length → (j - 1) / 2 = i → Le (evAt l ((i - 1) / 2)) (evAt l j))
theorem DownAt.both {l : List Ev} {i : Nat} (h : DownAt l i) : BothAt l i := ⟨fun j h0 h1 _ h3 => h.1 j h0 h1 h3, h.2⟩
theorem both_go {l : List Ev} {i : Nat} (hi : i < l.length) (h : BothAt l i) (hk : pickL l l.length i ≠ i) : DownAt (swp l i (pickL l l.length i)) (pickL l l.length i) := by
  obtain ⟨h1, h2⟩ := h
  obtain ⟨hm1, hm2⟩ := pick_min l l.length i
  obtain ⟨hk2, hkn, hlt⟩ := hm1.resolve_left hk
  generalize pickL l l.length i = k at hk hk2 hkn hlt hm2 ⊢
  have hpk : (k - 1) / 2 = i := by omega
  have hsw : ∀ j, evAt (swp l i k) j = if k = j then evAt l i else if i = j then evAt l k else evAt l j := fun j => evAt_swp l i k j hi hkn
  refine ⟨fun j hj0 hj hjk => ?_, fun hk0 j hj0 hj hjk => ?_⟩
  · rw [swp_length] at hj
    by_cases hj1 : j = k
    · subst hj1
      rw [hpk, hsw i, if_neg (by omega), if_pos rfl, hsw j, if_pos rfl]
      exact Le.of_lt hlt
    · by_cases hj2 : j = i
      · subst hj2
        rw [hsw j, if_neg (by omega), if_pos rfl, hsw ((j - 1) / 2), if_neg (by omega), if_neg (by omega)]
        exact h2 hj0 k (by omega) hkn hpk
      · rw [hsw j, if_neg (by omega), if_neg (by omega)]
        by_cases hq : (j - 1) / 2 = i
        · rw [hq, hsw i, if_neg (by omega), if_pos rfl]
          exact hm2 j (by omega) hj
        · rw [hsw, if_neg (by omega), if_neg (by omega)]
          exact h1 j hj0 hj hj2 hq
  · rw [swp_length] at hj
    rw [hpk, hsw i, if_neg (by omega), if_pos rfl, hsw j, if_neg (by omega), if_neg (by omega)]
    have := h1 j hj0 hj (by omega) (by omega)
    rw [hjk] at this
    exact this
theorem down_heap (l : List Ev) (i : Nat) (hi : i < l.length) (h : DownAt l i) : HeapW (downL l l.length i) := by
  generalize hm : l.length - i = m
  induction m using Nat.strongRecOn generalizing l i with
  | _ m ih =>
    by_cases hk : pickL l l.length i = i
    · rw [downL_stop hk]
      have hm2 := (pick_min l l.length i).2
      rw [hk] at hm2
      intro j hj0 hj
      by_cases hq : (j - 1) / 2 = i
      · rw [hq]; exact hm2 j (by omega) hj
      · exact h.1 j hj0 hj hq
    · have hc := (pickL_cases l l.length i).resolve_left hk
      rw [downL_go hk]
      have h3 := ih (l.length - pickL l l.length i) (by omega) (swp l i (pickL l l.length i)) (pickL l l.length i) (by rw [swp_length]; exact hc.2) (both_go hi h.both hk) (by rw [swp_length])
      rw [swp_length] at h3
      exact h3
theorem cut_at (l : List Ev) (i j : Nat) (hi : i < l.length) (hj : j < l.length - 1) : evAt (cutL l i) j = if i = j then evAt l (l.length - 1) else evAt l j := by
  unfold cutL
  rw [evAt_take _ _ _ hj, evAt_set _ _ _ _ hi]
theorem cut_both {l : List Ev} {i : Nat} (h : HeapW l) (hi : i < l.length - 1) : BothAt (cutL l i) i := by
  have hc := cutL_length l i
  refine ⟨fun j hj0 hj hji hq => ?_, fun h0 j hj0 hj hq => ?_⟩
  · rw [hc] at hj
    rw [cut_at _ _ _ (by omega) (by omega), cut_at _ _ _ (by omega) hj, if_neg (by omega), if_neg (by omega)]
    exact h j hj0 (by omega)
  · rw [hc] at hj
    rw [cut_at _ _ _ (by omega) (by omega), cut_at _ _ _ (by omega) hj, if_neg (by omega), if_neg (by omega)]
    have a := h i h0 (by omega)
    have b := h j hj0 (by omega)
    rw [hq] at b
    exact a.trans b
theorem take_heap {l : List Ev} {i : Nat} (h : HeapW l) (hi : i < l.length) : HeapW (takeL l i) := by
  have hc := cutL_length l i
  unfold takeL
  by_cases h1 : i < l.length - 1
  · rw [if_pos h1]
    have hb := cut_both h h1
    rw [← hc] at h1 ⊢
    by_cases hk : pickL (cutL l i) (cutL l i).length i = i
    · rw [downL_stop hk]
      have hm2 := (pick_min (cutL l i) (cutL l i).length i).2
      rw [hk] at hm2
      refine up_heap _ _ h1 ⟨fun j hj0 hj hji => ?_, hb.2⟩
      by_cases hq : (j - 1) / 2 = i
      · rw [hq]; exact hm2 j (by omega) hj
      · exact hb.1 j hj0 hj hji hq
    · have hk2 := (pickL_cases (cutL l i) (cutL l i).length i).resolve_left hk
      have hd : HeapW (downL (cutL l i) (cutL l i).length i) := by
        rw [downL_go hk]
        have h3 := down_heap (swp (cutL l i) i (pickL (cutL l i) (cutL l i).length i)) (pickL (cutL l i) (cutL l i).length i) (by rw [swp_length]; exact hk2.2) (both_go h1 hb hk)
        rw [swp_length] at h3
        exact h3
      rw [upL_stop (fun hu => hd i hu.1 (by rw [downL_length]; exact h1) hu.2)]
      exact hd
  · rw [if_neg h1]
    intro j hj0 hj
    rw [hc] at hj
    rw [cut_at _ _ _ hi (by omega), cut_at _ _ _ hi hj, if_neg (by omega), if_neg (by omega)]
    exact h j hj0 (by omega)
/- The first one is ahead of all. -/
theorem heap_first {l : List Ev} (h : HeapW l) (i : Nat) (hi : i < l.length) : Le (evAt l 0) (evAt l i) := by
  induction i using Nat.strongRecOn with
  | _ i ih =>
    by_cases h0 : i = 0
    · subst h0; exact Le.refl _
    · exact (ih ((i - 1) / 2) (by omega) (by omega)).trans (h i (by omega) hi)
/- Tags that differ. -/
theorem uni_swp {l : List Ev} {i k : Nat} (hi : i < l.length) (hk : k < l.length) (h : Uni l) : Uni (swp l i k) := by
  intro a b ha hb hg
  rw [swp_length] at ha hb
  rw [evAt_swp _ _ _ _ hi hk, evAt_swp _ _ _ _ hi hk] at hg
  by_cases a1 : k = a
  · rw [if_pos a1] at hg
    by_cases b1 : k = b
    · omega
    · rw [if_neg b1] at hg
      by_cases b2 : i = b
      · rw [if_pos b2] at hg
        have := h _ _ hi hk hg
        omega
      · rw [if_neg b2] at hg
        have := h _ _ hi hb hg
        omega
  · rw [if_neg a1] at hg
    by_cases a2 : i = a
    · rw [if_pos a2] at hg
      by_cases b1 : k = b
      · rw [if_pos b1] at hg
        have := h _ _ hk hi hg
        omega
      · rw [if_neg b1] at hg
        by_cases b2 : i = b
        · omega
        · rw [if_neg b2] at hg
          have := h _ _ hk hb hg
          omega
    · rw [if_neg a2] at hg
      by_cases b1 : k = b
      · rw [if_pos b1] at hg
        have := h _ _ ha hi hg
        omega
      · rw [if_neg b1] at hg
        by_cases b2 : i = b
        · rw [if_pos b2] at hg
          have := h _ _ ha hk hg
          omega
        · rw [if_neg b2] at hg
          exact h _ _ ha hb hg
theorem uni_up {l : List Ev} {i : Nat} (hi : i < l.length) (h : Uni l) : Uni (upL l i) := by
  induction i using Nat.strongRecOn generalizing l with
  | _ i ih =>
    by_cases hc : 0 < i ∧ (evAt l i).cmp (evAt l ((i - 1) / 2)) < 0
    · rw [upL_go hc.1 hc.2]
      exact ih _ (by omega) (by rw [swp_length]; omega) (uni_swp hi (by omega) h)
    · rw [upL_stop hc]; exact h
theorem uni_down {l : List Ev} {n i : Nat} (hn : n ≤ l.length) (hi : i < n) (h : Uni l) : Uni (downL l n i) := by
  generalize hm : n - i = m
  induction m using Nat.strongRecOn generalizing l i with
  | _ m ih =>
    by_cases hk : pickL l n i = i
    · rw [downL_stop hk]; exact h
    · have hc := (pickL_cases l n i).resolve_left hk
      rw [downL_go hk]
      exact ih (n - pickL l n i) (by omega) (by rw [swp_length]; exact hn) hc.2 (uni_swp (by omega) (by omega) h) rfl
theorem uni_snoc {l : List Ev} {e : Ev} (h : Uni l) (he : ∀ j, j < l.length → (evAt l j).g ≠ e.g) : Uni (l ++ [e]) := by
  intro a b ha hb hg
  simp at ha hb
  by_cases a1 : a = l.length
  · by_cases b1 : b = l.length
    · omega
    · rw [a1, evAt_last, evAt_left _ _ _ (by omega)] at hg
      exact absurd hg.symm (he b (by omega))
  · by_cases b1 : b = l.length
    · rw [b1, evAt_last, evAt_left _ _ _ (by omega)] at hg
      exact absurd hg (he a (by omega))
    · rw [evAt_left _ _ _ (by omega), evAt_left _ _ _ (by omega)] at hg
      exact h a b (by omega) (by omega) hg
theorem uni_push {l : List Ev} {e : Ev} (h : Uni l) (he : ∀ j, j < l.length → (evAt l j).g ≠ e.g) : Uni (pushL l e) := uni_up (by simp) (uni_snoc h he)
theorem uni_cut {l : List Ev} {i : Nat} (hi : i < l.length) (h : Uni l) : Uni (cutL l i) := by
  intro a b ha hb hg
  rw [cutL_length] at ha hb
  rw [cut_at _ _ _ hi ha, cut_at _ _ _ hi hb] at hg
  by_cases a1 : i = a
  · rw [if_pos a1] at hg
    by_cases b1 : i = b
    · omega
    · rw [if_neg b1] at hg
      have := h _ _ (by omega) (by omega) hg
      omega
  · rw [if_neg a1] at hg
    by_cases b1 : i = b
    · rw [if_pos b1] at hg
      have := h _ _ (by omega) (by omega) hg
      omega
    · rw [if_neg b1] at hg
      exact h _ _ (by omega) (by omega) hg
theorem uni_take {l : List Ev} {i : Nat} (hi : i < l.length) (h : Uni l) : Uni (takeL l i) := by
  unfold takeL
  by_cases h1 : i < l.length - 1
  · rw [if_pos h1]
    exact uni_up (by rw [downL_length, cutL_length]; exact h1) (uni_down (by rw [cutL_length]; omega) h1 (uni_cut hi h))
  · rw [if_neg h1]; exact uni_cut hi h
/- What is there. -/
def InL (e : Ev) (l : List Ev) : Prop := ∃ j, j < l.length ∧ evAt l j = e
theorem inL_kept {e : Ev} {l : List Ev} : InL e l ↔ ¬ Kept (fun x => x ≠ e) l := by
  constructor
  · rintro ⟨j, hj, he⟩ h
    exact h j hj he
  · intro h
    refine Classical.byContradiction fun hn => h fun j hj he => hn ⟨j, hj, he⟩
theorem inL_push {e x : Ev} {l : List Ev} : InL e (pushL l x) ↔ InL e l ∨ e = x := by
  rw [inL_kept, kept_pushL, inL_kept]
  constructor
  · intro h
    by_cases h1 : Kept (fun y => y ≠ e) l
    · by_cases h2 : e = x
      · exact .inr h2
      · exact absurd ⟨h1, fun hh => h2 hh.symm⟩ h
    · exact .inl h1
  · rintro (h | h) ⟨h1, h2⟩
    · exact h h1
    · exact h2 h.symm
theorem inL_cut {e : Ev} {l : List Ev} {i : Nat} (hi : i < l.length) (h : Uni l) : InL e (cutL l i) ↔ InL e l ∧ e ≠ evAt l i := by
  constructor
  · rintro ⟨j, hj, he⟩
    rw [cutL_length] at hj
    rw [cut_at _ _ _ hi hj] at he
    by_cases h1 : i = j
    · rw [if_pos h1] at he
      exact ⟨⟨_, by omega, he⟩, fun hh => by
        have := h (l.length - 1) i (by omega) hi (by rw [he, hh])
        omega⟩
    · rw [if_neg h1] at he
      exact ⟨⟨j, by omega, he⟩, fun hh => h1 (h i j hi (by omega) (by rw [he, hh]))⟩
  · rintro ⟨⟨j, hj, he⟩, hne⟩
    have hji : i ≠ j := fun hh => hne (by rw [hh, he])
    by_cases h1 : j = l.length - 1
    · exact ⟨i, by rw [cutL_length]; omega, by rw [cut_at _ _ _ hi (by omega), if_pos rfl, ← h1, he]⟩
    · exact ⟨j, by rw [cutL_length]; omega, by rw [cut_at _ _ _ hi (by omega), if_neg hji, he]⟩
theorem inL_take {e : Ev} {l : List Ev} {i : Nat} (hi : i < l.length) (h : Uni l) : InL e (takeL l i) ↔ InL e l ∧ e ≠ evAt l i := by
  rw [← inL_cut hi h]
  unfold takeL
  by_cases h1 : i < l.length - 1
  · rw [if_pos h1, inL_kept, kept_upL (by rw [downL_length, cutL_length]; exact h1), kept_downL (by rw [cutL_length]; omega) h1, ← inL_kept]
  · rw [if_neg h1]
theorem take_first {l : List Ev} (h : HeapW l) (hu : Uni l) (h0 : 0 < l.length) (j : Nat) (hj : j < (takeL l 0).length) : (evAt l 0).cmp (evAt (takeL l 0) j) < 0 := by
  obtain ⟨⟨i, hi, he⟩, hne⟩ := (inL_take h0 hu).1 ⟨j, hj, rfl⟩
  have h1 := heap_first h i hi
  rw [he] at h1
  refine h1.lt fun hg => hne ?_
  rw [← he] at hg ⊢
  rw [hu 0 i h0 hi hg]
/- In order. -/
def Ord1 (l : List Ev) : Prop := ∀ i j, i < j → j < l.length → (evAt l i).cmp (evAt l j) < 0
theorem evAt_cons (e : Ev) (l : List Ev) (i : Nat) : evAt (e :: l) (i + 1) = evAt l i := by simp [evAt]
theorem evAt_head (e : Ev) (l : List Ev) : evAt (e :: l) 0 = e := by simp [evAt]
theorem inL_cons {e x : Ev} {l : List Ev} : InL e (x :: l) ↔ e = x ∨ InL e l := by
  constructor
  · rintro ⟨j, hj, he⟩
    cases j with
    | zero => rw [evAt_head] at he; exact .inl he.symm
    | succ j => rw [evAt_cons] at he; exact .inr ⟨j, by simpa using hj, he⟩
  · rintro (rfl | ⟨j, hj, he⟩)
    · exact ⟨0, by simp, evAt_head _ _⟩
    · exact ⟨j + 1, by simpa using hj, by rw [evAt_cons]; exact he⟩
theorem ord_cons {x : Ev} {l : List Ev} : Ord1 (x :: l) ↔ (∀ j, j < l.length → x.cmp (evAt l j) < 0) ∧ Ord1 l := by
  constructor
  · intro h
    refine ⟨fun j hj => ?_, fun i j hij hj => ?_⟩
    · have := h 0 (j + 1) (by omega) (by simpa using hj)
      rwa [evAt_head, evAt_cons] at this
    · have := h (i + 1) (j + 1) (by omega) (by simpa using hj)
      rwa [evAt_cons, evAt_cons] at this
  · rintro ⟨h1, h2⟩ i j hij hj
    cases j with
    | zero => omega
    | succ j =>
      rw [evAt_cons]
      cases i with
      | zero => rw [evAt_head]; exact h1 j (by simpa using hj)
      | succ i => rw [evAt_cons]; exact h2 i j (by omega) (by simpa using hj)
theorem ord_same : ∀ (s t : List Ev), Ord1 s → Ord1 t → (∀ e, InL e s ↔ InL e t) → s = t
  | [], [], _, _, _ => rfl
  | [], b :: t, _, _, h => by
    obtain ⟨j, hj, _⟩ := (h b).2 ⟨0, by simp, evAt_head _ _⟩
    simp at hj
  | a :: s, [], _, _, h => by
    obtain ⟨j, hj, _⟩ := (h a).1 ⟨0, by simp, evAt_head _ _⟩
    simp at hj
  | a :: s, b :: t, hs, ht, h => by
    obtain ⟨hs1, hs2⟩ := ord_cons.1 hs
    obtain ⟨ht1, ht2⟩ := ord_cons.1 ht
    have hab : a = b := by
      rcases inL_cons.1 ((h a).1 (inL_cons.2 (.inl rfl))) with h1 | ⟨i, hi, h1⟩
      · exact h1
      · rcases inL_cons.1 ((h b).2 (inL_cons.2 (.inl rfl))) with h2 | ⟨j, hj, h2⟩
        · exact h2.symm
        · have a1 := ht1 i hi
          have a2 := hs1 j hj
          rw [h1] at a1
          rw [h2] at a2
          exact absurd a1 (cmp_asymm a2)
    subst hab
    have hir : ∀ x : Ev, ¬ x.cmp x < 0 := fun x hx => cmp_asymm hx hx
    rw [ord_same s t hs2 ht2 fun e => ?_]
    constructor
    · intro he
      rcases inL_cons.1 ((h e).1 (inL_cons.2 (.inr he))) with h1 | h1
      · obtain ⟨i, hi, h2⟩ := he
        have := hs1 i hi
        rw [h2, h1] at this
        exact absurd this (hir _)
      · exact h1
    · intro he
      rcases inL_cons.1 ((h e).2 (inL_cons.2 (.inr he))) with h1 | h1
      · obtain ⟨i, hi, h2⟩ := he
        have := ht1 i hi
        rw [h2, h1] at this
        exact absurd this (hir _)
      · exact h1
end Go.Proofs.Yteecpandpkicmaa

