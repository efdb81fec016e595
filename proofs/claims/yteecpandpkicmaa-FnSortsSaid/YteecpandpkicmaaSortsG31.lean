/- HQ2, HeapT, CmpS2, HPure -/
import Derived.Test.YteecpandpkicmaaSortsLHQ
import Derived.Test.YteecpandpkicmaaSortsLGSort
import Derived.Test.YteecpandpkicmaaSortsG01
import Derived.Test.YteecpandpkicmaaSortsG04
import Derived.Test.YteecpandpkicmaaSortsG14
/- What is drawn for heaps: DrawHeapOf, DrawHeapJoin. -/
namespace Go.Proofs.Yteecpandpkicmaa
open Go.RowKit
theorem Bx.tagged {w : World} {b : Nat} {e : Ev} (H : Bx w b e) (x : Int) : Bx (w.setCell ⟨b, 6, none⟩ (.int .i64 x)) b ⟨e.t, e.s, e.q, e.d, e.k, e.v, x⟩ := by
  have hn : ∀ i j : Nat, i ≠ j → (⟨b, i, none⟩ : Addr) ≠ ⟨b, j, none⟩ := fun i j hij e => hij (by injection e)
  obtain ⟨⟨f0, f1, f2, f3, f4, f5, f6⟩, hz, hl⟩ := H
  simp only [Nat.zero_add] at f1 f2 f3 f4 f5 f6
  refine ⟨⟨?_, ?_, ?_, ?_, ?_, ?_, ?_⟩, fun o => by simp [hz], by simpa [World.setCell] using hl⟩
  · exact (World.cell?_setCell_other _ _ _ _ (hn _ _ (by omega))).trans f0
  · exact (World.cell?_setCell_other _ _ _ _ (hn _ _ (by omega))).trans f1
  · exact (World.cell?_setCell_other _ _ _ _ (hn _ _ (by omega))).trans f2
  · exact (World.cell?_setCell_other _ _ _ _ (hn _ _ (by omega))).trans f3
  · exact (World.cell?_setCell_other _ _ _ _ (hn _ _ (by omega))).trans f4
  · exact (World.cell?_setCell_other _ _ _ _ (hn _ _ (by omega))).trans f5
  · exact World.cell?_setCell_same _ _ _ f6
set_option maxRecDepth 100000 in
set_option maxHeartbeats 8000000 in
theorem drawOf_any (a : Option Addr) (n cap : Nat) (w : World) (hn : n ≤ 281474976710656) (hC : CodeIn w w.heap.size a n) :
    Calls Try.prog 21 #[.slice a n cap] w fun r w' => ∃ v l, r = .returned v ∧ OwnR w.heap.size w' v l ∧ l.length ≤ 10 ∧ w.heap.size < w'.heap.size ∧ Below w.heap.size w w' := by
  have HC : Hid (CodeIn w w.heap.size a n) := hC
  clear hC
  obtain ⟨i0, hi, hz0, hz1, hz2⟩ := info_parts info25
  go_enter Try.func21, Try.ntmps21
  go_wp2_with fail
  refine (new_any a n cap _ hn HC.out).mono ?_
  rintro r w0 ⟨c, rfl, hc, hC0, hB0⟩
  have HC0 : Hid (Cur w0 c) := hC0
  have HB0 : Hid (Below w.heap.size w w0) := hB0
  clear hC0 hB0 HC
  go_wp2_with fail
  refine (below_any c _ _ HC0.out).mono ?_
  rintro r w1 ⟨x, rfl, hx0, hx1, hC1, hT1⟩
  have hx8 := hx1 (by omega)
  obtain ⟨m, rfl⟩ : ∃ m : Nat, x = (m : Int) := ⟨x.toNat, by omega⟩
  have hm : m ≤ 9 := by omega
  have HC1 : Hid (Cur w1 c) := hC1
  have HB1 : Hid (Below w.heap.size w w1) := HB0.out.trans (hT1.to_below (fun k hk => by omega) HB0.out.size)
  have hc1 : c < w1.heap.size := hC1.lt
  clear hC1 hT1 hx1 hx8 hx0 HC0 HB0
  go_wp2
  go_loopw [4, 6] (fun o i wr => ∃ (k : Nat) (v : Value) (l : List Ev), k ≤ m ∧ v = o ∧ i = .int .i64 k ∧ OwnR w1.heap.size wr v l ∧ l.length ≤ k ∧ Cur wr c ∧ Turns (fun k => k = c) w1 wr) (fun _ i _ => m - (intOf i).toNat)
  case atStart => exact ⟨0, _, [], Nat.zero_le _, rfl, rfl, OwnR.nil _ _, Nat.le_refl _, HC1.out, Turns.refl _ _⟩
  case round =>
    obtain ⟨k, v, l, hk, rfl, rfl, hR, hlk, hCr, hTr⟩ := hrel
    have HR : Hid (OwnR w1.heap.size wr v l) := hR
    have HCr : Hid (Cur wr c) := hCr
    have HTr : Hid (Turns (fun k => k = c) w1 wr) := hTr
    clear hR hCr hTr HC1
    by_cases hlt : k < m
    · go_wp2_with fail
      refine (draw_any c _ HCr.out).mono ?_
      rintro r w2 ⟨e, rfl, hC2, hT2⟩
      have HC2 : Hid (Cur w2 c) := hC2
      have HT2 : Hid (Turns (fun k => k = c) w1 w2) := HTr.out.trans hT2
      have HR2 : Hid (OwnR w1.heap.size w2 v l) := HR.out.turns hT2 (fun k hk => by omega)
      have hs2 : w1.heap.size ≤ w2.heap.size := HT2.out.size
      have hcw2 : c < w2.heap.size := by omega
      have HEa : Hid (Bx (w2.alloc (.cells #[.int .i64 e.t, .int .i64 e.s, .int .i64 e.q, .int .i64 e.d, .int .i64 e.k, .int .i64 e.v, .int .i64 e.g] 25)) w2.heap.size e) := Bx.new w2 25 e
      clear hC2 hT2 HCr HTr HR
      go_wp2_with fail
      refine (once_any c _ _ (HC2.out.alloc _)).mono ?_
      rintro r w3 ⟨x, rfl, hC3, hT3⟩
      have HC3 : Hid (Cur w3 c) := hC3
      have HT3 : Hid (Turns (fun k => k = c) (w2.alloc (.cells #[.int .i64 e.t, .int .i64 e.s, .int .i64 e.q, .int .i64 e.d, .int .i64 e.k, .int .i64 e.v, .int .i64 e.g] 25)) w3) := hT3
      have HE3 : Hid (Bx w3 w2.heap.size e) := HEa.out.turns hT3 (by omega)
      clear hC3 hT3 HEa HC2
      cases x with
      | true =>
        obtain ⟨⟨f0, f1, f2, f3, f4, f5, f6⟩, hfz, hlt2⟩ := HE3.out
        simp only [Nat.zero_add] at f1 f2 f3 f4 f5 f6
        have HTW2 : Hid (Turns (fun k => k = c) w2 (w3)) := ((Turns.refl (fun k => k = c) w2).alloc _).trans HT3.out
        have HRW : Hid (OwnR w1.heap.size (w3) v l) := HR2.out.turns HTW2.out (fun k hk => by omega)
        have HTW : Hid (Turns (fun k => k = c) w1 (w3)) := HT2.out.trans HTW2.out
        have HCW : Hid (Cur (w3) c) := HC3.out
        have hsW : w1.heap.size ≤ (w3).heap.size := HTW.out.size
        go_wp2_with (at_builtin; refine wpList_append_own _ rfl _ _ 23 rfl w1.heap.size 25 i0 _ 7 56 Try.underlying23 hi hz0 hz1 hz2 rfl (by decide) v _ _ rfl (World.ownsRow.alloc HRW.out _) ⟨(w3).heap.size, 0, none⟩ 1 1 (e : Ev).cs rfl rfl (Ev.In.cells (EvAt.new _ _ _ _ _ _ _ _ _)) (Ev.cs_one _) (by unfold maxLen; omega) (by omega) (by simp; omega) ?_; intro v' w4 hown hgrow hnil)
        have hT4 : Turns (fun k => w1.heap.size ≤ k) ((w3).alloc (.cells #[.int .i64 e.t, .int .i64 e.s, .int .i64 e.q, .int .i64 e.d, .int .i64 e.k, .int .i64 e.v, .int .i64 e.g] 25)) w4 := ⟨hgrow.os, hgrow.tape, hgrow.output, hgrow.size, fun j hj hn => hgrow.block j hj (fun er => hn (row_ge HRW.out er.symm))⟩
        have HR4 : Hid (OwnR w1.heap.size w4 v' (l ++ [(e : Ev)])) := OwnR.snoc hown
        have HC4 : Hid (Cur w4 c) := (HCW.out.alloc _).below (B := w1.heap.size) (hT4.to_below (fun k hk => hk) (by simp at hsW ⊢; omega)) hc1
        have HT4 : Hid (Turns (fun k => k = c) w1 w4) := (((HTW.out.alloc _).mono (S' := fun k => k = c ∨ w1.heap.size ≤ k) (fun k hk => .inl hk)).trans (hT4.mono (fun k hk => .inr hk))).old (fun k hk h => h.resolve_right (by omega))
        clear hown hgrow hnil hT4 f0 f1 f2 f3 f4 f5 f6
        go_wp2
        go_roundw
        case rel => exact ⟨k + 1, _, l ++ [(e : Ev)], by omega, rfl, by go_num, HR4.out, by simp; omega, HC4.out, HT4.out⟩
        case measure => simp [intOf]; omega
      | false =>
        obtain ⟨W, hW⟩ : ∃ W, w3.setCell ⟨w2.heap.size, 6, none⟩ (.int .i64 k) = W := ⟨_, rfl⟩
        have HE4 : Hid (Bx W w2.heap.size ⟨e.t, e.s, e.q, e.d, e.k, e.v, k⟩) := by rw [← hW]; exact HE3.out.tagged k
        obtain ⟨⟨f0, f1, f2, f3, f4, f5, f6⟩, _, _⟩ := HE4.out
        obtain ⟨⟨_, _, _, _, _, _, g6⟩, hfz, hlt2⟩ := HE3.out
        simp only [Nat.zero_add] at f1 f2 f3 f4 f5 f6 g6
        have HTW2 : Hid (Turns (fun k => k = c) w2 (W)) := by rw [← hW]; exact ((((Turns.refl (fun k => k = c) w2).alloc _).trans HT3.out).mono (S' := fun k => k = c ∨ w2.heap.size ≤ k) (fun k hk => .inl hk) |>.setCell (p := ⟨w2.heap.size, 6, none⟩) (.inr (Nat.le_refl _)) _).old (fun k hk h => h.resolve_right (by omega))
        have HRW : Hid (OwnR w1.heap.size (W) v l) := HR2.out.turns HTW2.out (fun k hk => by omega)
        have HTW : Hid (Turns (fun k => k = c) w1 (W)) := HT2.out.trans HTW2.out
        have HCW : Hid (Cur (W) c) := by rw [← hW]; exact HC3.out.set (p := ⟨w2.heap.size, 6, none⟩) hcw2 _
        have hsW : w1.heap.size ≤ (W).heap.size := HTW.out.size
        go_wp2_with (at_builtin; refine wpList_append_own _ rfl _ _ 23 rfl w1.heap.size 25 i0 _ 7 56 Try.underlying23 hi hz0 hz1 hz2 rfl (by decide) v _ _ rfl (World.ownsRow.alloc HRW.out _) ⟨(W).heap.size, 0, none⟩ 1 1 (⟨e.t, e.s, e.q, e.d, e.k, e.v, k⟩ : Ev).cs rfl rfl (Ev.In.cells (EvAt.new _ _ _ _ _ _ _ _ _)) (Ev.cs_one _) (by unfold maxLen; omega) (by omega) (by simp; omega) ?_; intro v' w4 hown hgrow hnil)
        have hT4 : Turns (fun k => w1.heap.size ≤ k) ((W).alloc (.cells #[.int .i64 e.t, .int .i64 e.s, .int .i64 e.q, .int .i64 e.d, .int .i64 e.k, .int .i64 e.v, .int .i64 (k : Int)] 25)) w4 := ⟨hgrow.os, hgrow.tape, hgrow.output, hgrow.size, fun j hj hn => hgrow.block j hj (fun er => hn (row_ge HRW.out er.symm))⟩
        have HR4 : Hid (OwnR w1.heap.size w4 v' (l ++ [(⟨e.t, e.s, e.q, e.d, e.k, e.v, k⟩ : Ev)])) := OwnR.snoc hown
        have HC4 : Hid (Cur w4 c) := (HCW.out.alloc _).below (B := w1.heap.size) (hT4.to_below (fun k hk => hk) (by simp at hsW ⊢; omega)) hc1
        have HT4 : Hid (Turns (fun k => k = c) w1 w4) := (((HTW.out.alloc _).mono (S' := fun k => k = c ∨ w1.heap.size ≤ k) (fun k hk => .inl hk)).trans (hT4.mono (fun k hk => .inr hk))).old (fun k hk h => h.resolve_right (by omega))
        clear hown hgrow hnil hT4 f0 f1 f2 f3 f4 f5 f6
        go_wp2
        go_roundw
        case rel => exact ⟨k + 1, _, l ++ [(⟨e.t, e.s, e.q, e.d, e.k, e.v, k⟩ : Ev)], by omega, rfl, by go_num, HR4.out, by simp; omega, HC4.out, HT4.out⟩
        case measure => simp [intOf]; omega
    · go_wp2_with fail
      refine (once_any c _ _ HCr.out).mono ?_
      rintro r w2 ⟨x, rfl, hC2, hT2⟩
      have HC2 : Hid (Cur w2 c) := hC2
      have HT2 : Hid (Turns (fun k => k = c) w1 w2) := HTr.out.trans hT2
      have HR2 : Hid (OwnR w1.heap.size w2 v l) := HR.out.turns hT2 (fun k hk => by omega)
      clear hC2 hT2 HCr HTr HR
      cases x with
      | false =>
        go_wp2
        go_ret
        exact ⟨v, l, rfl, HR2.out.mono HB1.out.size, by omega, by have := HT2.out.size; omega, HB1.out.trans (HT2.out.to_below (fun k hk => by omega) HB1.out.size)⟩
      | true =>
        go_wp2_with fail
        refine (bent_any c _ HC2.out).mono ?_
        rintro r w3 ⟨e, rfl, hC3, hT3⟩
        have HT3 : Hid (Turns (fun k => k = c) w1 w3) := HT2.out.trans hT3
        have HR3 : Hid (OwnR w1.heap.size w3 v l) := HR2.out.turns hT3 (fun k hk => by omega)
        have hs3 := HT3.out.size
        clear hC3 hT3 HC2 HT2 HR2
        go_wp2_with (at_builtin; refine wpList_append_own _ rfl _ _ 23 rfl w1.heap.size 25 i0 _ 7 56 Try.underlying23 hi hz0 hz1 hz2 rfl (by decide) v _ _ rfl (World.ownsRow.alloc HR3.out _) ⟨w3.heap.size, 0, none⟩ 1 1 e.cs rfl rfl (Ev.In.cells (EvAt.new _ _ _ _ _ _ _ _ _)) (Ev.cs_one e) (by unfold maxLen; omega) (by omega) (by simp; omega) ?_; intro v' w4 hown hgrow hnil)
        go_ret
        have hT4 : Turns (fun k => w1.heap.size ≤ k) (w3.alloc (.cells #[.int .i64 e.t, .int .i64 e.s, .int .i64 e.q, .int .i64 e.d, .int .i64 e.k, .int .i64 e.v, .int .i64 e.g] 25)) w4 := ⟨hgrow.os, hgrow.tape, hgrow.output, hgrow.size, fun j hj hn => hgrow.block j hj (fun er => hn (row_ge HR3.out er.symm))⟩
        refine ⟨v', l ++ [e], rfl, (OwnR.snoc hown).mono HB1.out.size, by simp; omega, by have := hT4.size; simp at this; omega, ?_⟩
        exact HB1.out.trans (((HT3.out.alloc _).to_below (fun k hk => by omega) HB1.out.size).trans (hT4.to_below (fun k hk => by have := HB1.out.size; omega) (by have := HB1.out.size; simp; omega)))
theorem lst2 (w : World) (T : TypeId) (y0 y1 : Int) : ListAt (w.alloc (.cells #[.int .i64 y0, .int .i64 y1] T)) w.heap.size 2 (fun _ => True) :=
  ⟨by simp, fun j hj => by
    match j, hj with
    | 0, _ => exact ⟨y0, trivial, by simp⟩
    | 1, _ => exact ⟨y1, trivial, by simp⟩⟩
set_option maxRecDepth 100000 in
set_option maxHeartbeats 8000000 in
theorem drawJoin_any (a : Option Addr) (n cap : Nat) (w : World) (hn : n ≤ 281474976710656) (hC : CodeIn w w.heap.size a n) :
    Calls Try.prog 23 #[.slice a n cap] w fun r w' => ∃ v l v' l', r = .returned (.tuple #[v, v']) ∧ OwnR w.heap.size w' v l ∧ OwnR w.heap.size w' v' l' ∧ l.length ≤ 10 ∧ l'.length ≤ 10 ∧ Below w.heap.size w w' := by
  have HC : Hid (CodeIn w w.heap.size a n) := hC
  clear hC
  go_enter Try.func23, Try.ntmps23
  go_wp2_with fail
  refine (new_any a n cap _ hn HC.out).mono ?_
  rintro r w1 ⟨c, rfl, hc, hC1, hB1⟩
  have HC1 : Hid (Cur w1 c) := hC1
  have HB1 : Hid (Below w.heap.size w w1) := hB1
  have hc1 : c < w1.heap.size := hC1.lt
  clear hC1 hB1 HC
  go_wp2_with fail
  refine (heapDraw_any c 0 _ HC1.out).mono ?_
  rintro r w2 ⟨v, l, rfl, hR2, hl2, hC2, hT2⟩
  have HC2 : Hid (Cur w2 c) := hC2
  have HR2 : Hid (OwnR w1.heap.size w2 v l) := hR2
  have HT2 : Hid (Turns (fun k => k = c) w1 w2) := hT2
  clear hC2 hR2 hT2 HC1
  go_wp2_with fail
  refine (pick_any c w2.heap.size 2 (fun _ => True) _ (by omega) (by omega) HC2.out.ne (HC2.out.alloc _) (lst2 _ _ _ _)).mono ?_
  rintro r w3 ⟨y, rfl, _, hC3, hT3⟩
  have HC3 : Hid (Cur w3 c) := hC3
  have HT3 : Hid (Turns (fun k => k = c) w1 w3) := (HT2.out.alloc _).trans hT3
  have HR3 : Hid (OwnR w1.heap.size w3 v l) := HR2.out.turns (((Turns.refl (fun k => k = c) w2).alloc _).trans hT3) (fun k hk => by omega)
  clear hC3 hT3 HC2 HR2 HT2
  go_wp2_with fail
  refine (heapDraw_any c y _ HC3.out).mono ?_
  rintro r w4 ⟨v', l', rfl, hR4, hl4, hC4, hT4⟩
  have HR4 : Hid (OwnR w3.heap.size w4 v' l') := hR4
  have HT4 : Hid (Turns (fun k => k = c) w1 w4) := HT3.out.trans hT4
  have HV4 : Hid (OwnR w1.heap.size w4 v l) := HR3.out.turns hT4 (fun k hk => by omega)
  have hs3 := HT3.out.size
  clear hR4 hT4 HR3
  go_wp2
  go_ret2
  have hs1 := HB1.out.size
  exact ⟨v, l, v', l', rfl, HV4.out.mono hs1, HR4.out.mono (by omega), hl2, hl4, HB1.out.trans (HT4.out.to_below (fun k hk => by omega) hs1)⟩
end Go.Proofs.Yteecpandpkicmaa

/- Heaps as plain lists: lifting and sinking leave a heap; what is popped first is ahead of all; what is popped one behind the other is in order; two orders of the same events are one. -/
namespace Go.Proofs.Yteecpandpkicmaa

/- a is not behind b. -/
def Le (a b : Ev) : Prop := ¬ b.cmp a < 0
theorem Le.trans {a b c : Ev} (h : Le a b) (k : Le b c) : Le a c := cmp_neg k h
theorem Le.of_lt {a b : Ev} (h : a.cmp b < 0) : Le a b := cmp_asymm h
theorem Le.refl (a : Ev) : Le a a := fun h => cmp_asymm h h
theorem Le.lt {a b : Ev} (h : Le a b) (hg : a.g ≠ b.g) : a.cmp b < 0 := by
  unfold Le Ev.cmp at *
  rw [cmpI_lt] at *
  omega
def HeapW (l : List Ev) : Prop := ∀ i, 0 < i → i < l.length → Le (evAt l ((i - 1) / 2)) (evAt l i)
def Uni (l : List Ev) : Prop := ∀ i j, i < l.length → j < l.length → (evAt l i).g = (evAt l j).g → i = j

/- Lifting. -/
def UpAt (l : List Ev) (i : Nat) : Prop := (∀ j, 0 < j → j < l.length → j ≠ i → Le (evAt l ((j - 1) / 2)) (evAt l j)) ∧ (0 < i → ∀ j, 0 < j → j < l.length → (j - 1) / 2 = i → Le (evAt l ((i - 1) / 2)) (evAt l j))
theorem up_heap (l : List Ev) (i : Nat) (hi : i < l.length) (h : UpAt l i) : HeapW (upL l i) := by
  induction i using Nat.strongRecOn generalizing l with
  | _ i ih =>
    obtain ⟨h1, h2⟩ := h
    by_cases hc : 0 < i ∧ (evAt l i).cmp (evAt l ((i - 1) / 2)) < 0
    · rw [upL_go hc.1 hc.2]
      obtain ⟨h0, hlt⟩ := hc
      generalize hp : (i - 1) / 2 = p at hlt h2 ⊢
      have hpi : p < i := by omega
      have hsw : ∀ j, evAt (swp l i p) j = if p = j then evAt l i else if i = j then evAt l p else evAt l j := fun j => evAt_swp l i p j hi (by omega)
      refine ih p hpi _ (by rw [swp_length]; omega) ⟨fun j hj0 hj hjp => ?_, fun hp0 j hj0 hj hjp => ?_⟩
      · rw [swp_length] at hj
        by_cases hji : j = i
        · subst hji
          rw [hp, hsw p, if_pos rfl, hsw j, if_neg (by omega), if_pos rfl]
          exact Le.of_lt hlt
        · rw [hsw j, if_neg (by omega), if_neg (by omega)]
          by_cases hq : (j - 1) / 2 = p
          · rw [hq, hsw p, if_pos rfl]
            have := h1 j hj0 hj hji
            rw [hq] at this
            exact (Le.of_lt hlt).trans this
          · by_cases hq' : (j - 1) / 2 = i
            · rw [hq', hsw i, if_neg (by omega), if_pos rfl]
              exact h2 h0 j hj0 hj hq'
            · rw [hsw, if_neg (by omega), if_neg (by omega)]
              exact h1 j hj0 hj hji
      · rw [swp_length] at hj
        rw [hsw ((p - 1) / 2), if_neg (by omega), if_neg (by omega)]
        have hpp := h1 p hp0 (by omega) (by omega)
        by_cases hji : j = i
        · subst hji
          rw [hsw j, if_neg (by omega), if_pos rfl]
          exact hpp
        · rw [hsw j, if_neg (by omega), if_neg (by omega)]
          have := h1 j hj0 hj hji
          rw [hjp] at this
          exact hpp.trans this
    · rw [upL_stop hc]
      intro j hj0 hj
      by_cases hji : j = i
      · subst hji
        exact fun h => hc ⟨hj0, h⟩
      · exact h1 j hj0 hj hji
theorem push_heap {l : List Ev} {e : Ev} (h : HeapW l) : HeapW (pushL l e) := by
  unfold pushL
  refine up_heap _ _ (by simp) ⟨fun j hj0 hj hji => ?_, fun h0 j hj0 hj hji => ?_⟩
  · simp at hj
    rw [evAt_left _ _ _ (by omega), evAt_left _ _ _ (by omega)]
    exact h j hj0 (by omega)
  · simp at hj
    omega

/- Sinking. -/
theorem pick_min (l : List Ev) (n i : Nat) : (pickL l n i = i ∨ ((pickL l n i = 2 * i + 1 ∨ pickL l n i = 2 * i + 2) ∧ pickL l n i < n ∧ (evAt l (pickL l n i)).cmp (evAt l i) < 0)) ∧ ∀ j, (j = 2 * i + 1 ∨ j = 2 * i + 2) → j < n → Le (evAt l (pickL l n i)) (evAt l j) := by
  unfold pickL
  by_cases h1 : 2 * i + 1 < n ∧ (evAt l (2 * i + 1)).cmp (evAt l i) < 0
  · rw [if_pos h1]
    by_cases h2 : 2 * i + 2 < n ∧ (evAt l (2 * i + 2)).cmp (evAt l (2 * i + 1)) < 0
    · rw [if_pos h2]
      refine ⟨.inr ⟨.inr rfl, h2.1, cmp_trans h2.2 h1.2⟩, fun j hj hn => ?_⟩
      rcases hj with rfl | rfl
      · exact Le.of_lt h2.2
      · exact Le.refl _
    · rw [if_neg h2]
      refine ⟨.inr ⟨.inl rfl, h1.1, h1.2⟩, fun j hj hn => ?_⟩
      rcases hj with rfl | rfl
      · exact Le.refl _
      · exact fun h => h2 ⟨hn, h⟩
  · rw [if_neg h1]
    by_cases h2 : 2 * i + 2 < n ∧ (evAt l (2 * i + 2)).cmp (evAt l i) < 0
    · rw [if_pos h2]
      refine ⟨.inr ⟨.inr rfl, h2.1, h2.2⟩, fun j hj hn => ?_⟩
      rcases hj with rfl | rfl
      · exact (Le.of_lt h2.2).trans (fun h => h1 ⟨hn, h⟩)
      · exact Le.refl _
    · rw [if_neg h2]
      refine ⟨.inl rfl, fun j hj hn => ?_⟩
      rcases hj with rfl | rfl
      · exact fun h => h1 ⟨hn, h⟩
      · exact fun h => h2 ⟨hn, h⟩
def BothAt (l : List Ev) (i : Nat) : Prop := (∀ j, 0 < j → j < l.length → j ≠ i → (j - 1) / 2 ≠ i → Le (evAt l ((j - 1) / 2)) (evAt l j)) ∧ (0 < i → ∀ j, 0 < j → j < l.length → (j - 1) / 2 = i → Le (evAt l ((i - 1) / 2)) (evAt l j))
def DownAt (l : List Ev) (i : Nat) : Prop := (∀ j, 0 < j → j < l.length → (j - 1) / 2 ≠ i → Le (evAt l ((j - 1) / 2)) (evAt l j)) ∧ (0 < i → ∀ j, 0 < j → j < l.length → (j - 1) / 2 = i → Le (evAt l ((i - 1) / 2)) (evAt l j))
theorem DownAt.both {l : List Ev} {i : Nat} (h : DownAt l i) : BothAt l i := ⟨fun j h0 h1 _ h3 => h.1 j h0 h1 h3, h.2⟩
theorem both_go {l : List Ev} {i : Nat} (hi : i < l.length) (h : BothAt l i) (hk : pickL l l.length i ≠ i) : DownAt (swp l i (pickL l l.length i)) (pickL l l.length i) := by
  obtain ⟨h1, h2⟩ := h
  obtain ⟨hm1, hm2⟩ := pick_min l l.length i
  obtain ⟨hk2, hkn, hlt⟩ := hm1.resolve_left hk
  generalize pickL l l.length i = k at hk hk2 hkn hlt hm2 ⊢
  have hpk : (k - 1) / 2 = i := by omega
  have hsw : ∀ j, evAt (swp l i k) j = if k = j then evAt l i else if i = j then evAt l k else evAt l j := fun j => evAt_swp l i k j hi hkn
  refine ⟨fun j hj0 hj hjk => ?_, fun hk0 j hj0 hj hjk => ?_⟩
  · rw [swp_length] at hj
    by_cases hj1 : j = k
    · subst hj1
      rw [hpk, hsw i, if_neg (by omega), if_pos rfl, hsw j, if_pos rfl]
      exact Le.of_lt hlt
    · by_cases hj2 : j = i
      · subst hj2
        rw [hsw j, if_neg (by omega), if_pos rfl, hsw ((j - 1) / 2), if_neg (by omega), if_neg (by omega)]
        exact h2 hj0 k (by omega) hkn hpk
      · rw [hsw j, if_neg (by omega), if_neg (by omega)]
        by_cases hq : (j - 1) / 2 = i
        · rw [hq, hsw i, if_neg (by omega), if_pos rfl]
          exact hm2 j (by omega) hj
        · rw [hsw, if_neg (by omega), if_neg (by omega)]
          exact h1 j hj0 hj hj2 hq
  · rw [swp_length] at hj
    rw [hpk, hsw i, if_neg (by omega), if_pos rfl, hsw j, if_neg (by omega), if_neg (by omega)]
    have := h1 j hj0 hj (by omega) (by omega)
    rw [hjk] at this
    exact this
theorem down_heap (l : List Ev) (i : Nat) (hi : i < l.length) (h : DownAt l i) : HeapW (downL l l.length i) := by
  generalize hm : l.length - i = m
  induction m using Nat.strongRecOn generalizing l i with
  | _ m ih =>
    by_cases hk : pickL l l.length i = i
    · rw [downL_stop hk]
      have hm2 := (pick_min l l.length i).2
      rw [hk] at hm2
      intro j hj0 hj
      by_cases hq : (j - 1) / 2 = i
      · rw [hq]; exact hm2 j (by omega) hj
      · exact h.1 j hj0 hj hq
    · have hc := (pickL_cases l l.length i).resolve_left hk
      rw [downL_go hk]
      have h3 := ih (l.length - pickL l l.length i) (by omega) (swp l i (pickL l l.length i)) (pickL l l.length i) (by rw [swp_length]; exact hc.2) (both_go hi h.both hk) (by rw [swp_length])
      rw [swp_length] at h3
      exact h3
theorem cut_at (l : List Ev) (i j : Nat) (hi : i < l.length) (hj : j < l.length - 1) : evAt (cutL l i) j = if i = j then evAt l (l.length - 1) else evAt l j := by
  unfold cutL
  rw [evAt_take _ _ _ hj, evAt_set _ _ _ _ hi]
theorem cut_both {l : List Ev} {i : Nat} (h : HeapW l) (hi : i < l.length - 1) : BothAt (cutL l i) i := by
  have hc := cutL_length l i
  refine ⟨fun j hj0 hj hji hq => ?_, fun h0 j hj0 hj hq => ?_⟩
  · rw [hc] at hj
    rw [cut_at _ _ _ (by omega) (by omega), cut_at _ _ _ (by omega) hj, if_neg (by omega), if_neg (by omega)]
    exact h j hj0 (by omega)
  · rw [hc] at hj
    rw [cut_at _ _ _ (by omega) (by omega), cut_at _ _ _ (by omega) hj, if_neg (by omega), if_neg (by omega)]
    have a := h i h0 (by omega)
    have b := h j hj0 (by omega)
    rw [hq] at b
    exact a.trans b
theorem take_heap {l : List Ev} {i : Nat} (h : HeapW l) (hi : i < l.length) : HeapW (takeL l i) := by
  have hc := cutL_length l i
  unfold takeL
  by_cases h1 : i < l.length - 1
  · rw [if_pos h1]
    have hb := cut_both h h1
    rw [← hc] at h1 ⊢
    by_cases hk : pickL (cutL l i) (cutL l i).length i = i
    · rw [downL_stop hk]
      have hm2 := (pick_min (cutL l i) (cutL l i).length i).2
      rw [hk] at hm2
      refine up_heap _ _ h1 ⟨fun j hj0 hj hji => ?_, hb.2⟩
      by_cases hq : (j - 1) / 2 = i
      · rw [hq]; exact hm2 j (by omega) hj
      · exact hb.1 j hj0 hj hji hq
    · have hk2 := (pickL_cases (cutL l i) (cutL l i).length i).resolve_left hk
      have hd : HeapW (downL (cutL l i) (cutL l i).length i) := by
        rw [downL_go hk]
        have h3 := down_heap (swp (cutL l i) i (pickL (cutL l i) (cutL l i).length i)) (pickL (cutL l i) (cutL l i).length i) (by rw [swp_length]; exact hk2.2) (both_go h1 hb hk)
        rw [swp_length] at h3
        exact h3
      rw [upL_stop (fun hu => hd i hu.1 (by rw [downL_length]; exact h1) hu.2)]
      exact hd
  · rw [if_neg h1]
    intro j hj0 hj
    rw [hc] at hj
    rw [cut_at _ _ _ hi (by omega), cut_at _ _ _ hi hj, if_neg (by omega), if_neg (by omega)]
    exact h j hj0 (by omega)
/- The first one is ahead of all. -/
theorem heap_first {l : List Ev} (h : HeapW l) (i : Nat) (hi : i < l.length) : Le (evAt l 0) (evAt l i) := by
  induction i using Nat.strongRecOn with
  | _ i ih =>
    by_cases h0 : i = 0
    · subst h0; exact Le.refl _
    · exact (ih ((i - 1) / 2) (by omega) (by omega)).trans (h i (by omega) hi)
/- Tags that differ. -/
theorem uni_swp {l : List Ev} {i k : Nat} (hi : i < l.length) (hk : k < l.length) (h : Uni l) : Uni (swp l i k) := by
  intro a b ha hb hg
  rw [swp_length] at ha hb
  rw [evAt_swp _ _ _ _ hi hk, evAt_swp _ _ _ _ hi hk] at hg
  by_cases a1 : k = a
  · rw [if_pos a1] at hg
    by_cases b1 : k = b
    · omega
    · rw [if_neg b1] at hg
      by_cases b2 : i = b
      · rw [if_pos b2] at hg
        have := h _ _ hi hk hg
        omega
      · rw [if_neg b2] at hg
        have := h _ _ hi hb hg
        omega
  · rw [if_neg a1] at hg
    by_cases a2 : i = a
    · rw [if_pos a2] at hg
      by_cases b1 : k = b
      · rw [if_pos b1] at hg
        have := h _ _ hk hi hg
        omega
      · rw [if_neg b1] at hg
        by_cases b2 : i = b
        · omega
        · rw [if_neg b2] at hg
          have := h _ _ hk hb hg
          omega
    · rw [if_neg a2] at hg
      by_cases b1 : k = b
      · rw [if_pos b1] at hg
        have := h _ _ ha hi hg
        omega
      · rw [if_neg b1] at hg
        by_cases b2 : i = b
        · rw [if_pos b2] at hg
          have := h _ _ ha hk hg
          omega
        · rw [if_neg b2] at hg
          exact h _ _ ha hb hg
theorem uni_up {l : List Ev} {i : Nat} (hi : i < l.length) (h : Uni l) : Uni (upL l i) := by
  induction i using Nat.strongRecOn generalizing l with
  | _ i ih =>
    by_cases hc : 0 < i ∧ (evAt l i).cmp (evAt l ((i - 1) / 2)) < 0
    · rw [upL_go hc.1 hc.2]
      exact ih _ (by omega) (by rw [swp_length]; omega) (uni_swp hi (by omega) h)
    · rw [upL_stop hc]; exact h
theorem uni_down {l : List Ev} {n i : Nat} (hn : n ≤ l.length) (hi : i < n) (h : Uni l) : Uni (downL l n i) := by
  generalize hm : n - i = m
  induction m using Nat.strongRecOn generalizing l i with
  | _ m ih =>
    by_cases hk : pickL l n i = i
    · rw [downL_stop hk]; exact h
    · have hc := (pickL_cases l n i).resolve_left hk
      rw [downL_go hk]
      exact ih (n - pickL l n i) (by omega) (by rw [swp_length]; exact hn) hc.2 (uni_swp (by omega) (by omega) h) rfl
theorem uni_snoc {l : List Ev} {e : Ev} (h : Uni l) (he : ∀ j, j < l.length → (evAt l j).g ≠ e.g) : Uni (l ++ [e]) := by
  intro a b ha hb hg
  simp at ha hb
  by_cases a1 : a = l.length
  · by_cases b1 : b = l.length
    · omega
    · rw [a1, evAt_last, evAt_left _ _ _ (by omega)] at hg
      exact absurd hg.symm (he b (by omega))
  · by_cases b1 : b = l.length
    · rw [b1, evAt_last, evAt_left _ _ _ (by omega)] at hg
      exact absurd hg (he a (by omega))
    · rw [evAt_left _ _ _ (by omega), evAt_left _ _ _ (by omega)] at hg
      exact h a b (by omega) (by omega) hg
theorem uni_push {l : List Ev} {e : Ev} (h : Uni l) (he : ∀ j, j < l.length → (evAt l j).g ≠ e.g) : Uni (pushL l e) := uni_up (by simp) (uni_snoc h he)
theorem uni_cut {l : List Ev} {i : Nat} (hi : i < l.length) (h : Uni l) : Uni (cutL l i) := by
  intro a b ha hb hg
  rw [cutL_length] at ha hb
  rw [cut_at _ _ _ hi ha, cut_at _ _ _ hi hb] at hg
  by_cases a1 : i = a
  · rw [if_pos a1] at hg
    by_cases b1 : i = b
    · omega
    · rw [if_neg b1] at hg
      have := h _ _ (by omega) (by omega) hg
      omega
  · rw [if_neg a1] at hg
    by_cases b1 : i = b
    · rw [if_pos b1] at hg
      have := h _ _ (by omega) (by omega) hg
      omega
    · rw [if_neg b1] at hg
      exact h _ _ (by omega) (by omega) hg
theorem uni_take {l : List Ev} {i : Nat} (hi : i < l.length) (h : Uni l) : Uni (takeL l i) := by
  unfold takeL
  by_cases h1 : i < l.length - 1
  · rw [if_pos h1]
    exact uni_up (by rw [downL_length, cutL_length]; exact h1) (uni_down (by rw [cutL_length]; omega) h1 (uni_cut hi h))
  · rw [if_neg h1]; exact uni_cut hi h
/- What is there. -/
def InL (e : Ev) (l : List Ev) : Prop := ∃ j, j < l.length ∧ evAt l j = e
theorem inL_kept {e : Ev} {l : List Ev} : InL e l ↔ ¬ Kept (fun x => x ≠ e) l := by
  constructor
  · rintro ⟨j, hj, he⟩ h
    exact h j hj he
  · intro h
    refine Classical.byContradiction fun hn => h fun j hj he => hn ⟨j, hj, he⟩
theorem inL_push {e x : Ev} {l : List Ev} : InL e (pushL l x) ↔ InL e l ∨ e = x := by
  rw [inL_kept, kept_pushL, inL_kept]
  constructor
  · intro h
    by_cases h1 : Kept (fun y => y ≠ e) l
    · by_cases h2 : e = x
      · exact .inr h2
      · exact absurd ⟨h1, fun hh => h2 hh.symm⟩ h
    · exact .inl h1
  · rintro (h | h) ⟨h1, h2⟩
    · exact h h1
    · exact h2 h.symm
theorem inL_cut {e : Ev} {l : List Ev} {i : Nat} (hi : i < l.length) (h : Uni l) : InL e (cutL l i) ↔ InL e l ∧ e ≠ evAt l i := by
  constructor
  · rintro ⟨j, hj, he⟩
    rw [cutL_length] at hj
    rw [cut_at _ _ _ hi hj] at he
    by_cases h1 : i = j
    · rw [if_pos h1] at he
      exact ⟨⟨_, by omega, he⟩, fun hh => by
        have := h (l.length - 1) i (by omega) hi (by rw [he, hh])
        omega⟩
    · rw [if_neg h1] at he
      exact ⟨⟨j, by omega, he⟩, fun hh => h1 (h i j hi (by omega) (by rw [he, hh]))⟩
  · rintro ⟨⟨j, hj, he⟩, hne⟩
    have hji : i ≠ j := fun hh => hne (by rw [hh, he])
    by_cases h1 : j = l.length - 1
    · exact ⟨i, by rw [cutL_length]; omega, by rw [cut_at _ _ _ hi (by omega), if_pos rfl, ← h1, he]⟩
    · exact ⟨j, by rw [cutL_length]; omega, by rw [cut_at _ _ _ hi (by omega), if_neg hji, he]⟩
theorem inL_take {e : Ev} {l : List Ev} {i : Nat} (hi : i < l.length) (h : Uni l) : InL e (takeL l i) ↔ InL e l ∧ e ≠ evAt l i := by
  rw [← inL_cut hi h]
  unfold takeL
  by_cases h1 : i < l.length - 1
  · rw [if_pos h1, inL_kept, kept_upL (by rw [downL_length, cutL_length]; exact h1), kept_downL (by rw [cutL_length]; omega) h1, ← inL_kept]
  · rw [if_neg h1]
theorem take_first {l : List Ev} (h : HeapW l) (hu : Uni l) (h0 : 0 < l.length) (j : Nat) (hj : j < (takeL l 0).length) : (evAt l 0).cmp (evAt (takeL l 0) j) < 0 := by
  obtain ⟨⟨i, hi, he⟩, hne⟩ := (inL_take h0 hu).1 ⟨j, hj, rfl⟩
  have h1 := heap_first h i hi
  rw [he] at h1
  refine h1.lt fun hg => hne ?_
  rw [← he] at hg ⊢
  rw [hu 0 i h0 hi hg]
/- In order. -/
def Ord1 (l : List Ev) : Prop := ∀ i j, i < j → j < l.length → (evAt l i).cmp (evAt l j) < 0
theorem evAt_cons (e : Ev) (l : List Ev) (i : Nat) : evAt (e :: l) (i + 1) = evAt l i := by simp [evAt]
theorem evAt_head (e : Ev) (l : List Ev) : evAt (e :: l) 0 = e := by simp [evAt]
theorem inL_cons {e x : Ev} {l : List Ev} : InL e (x :: l) ↔ e = x ∨ InL e l := by
  constructor
  · rintro ⟨j, hj, he⟩
    cases j with
    | zero => rw [evAt_head] at he; exact .inl he.symm
    | succ j => rw [evAt_cons] at he; exact .inr ⟨j, by simpa using hj, he⟩
  · rintro (rfl | ⟨j, hj, he⟩)
    · exact ⟨0, by simp, evAt_head _ _⟩
    · exact ⟨j + 1, by simpa using hj, by rw [evAt_cons]; exact he⟩
theorem ord_cons {x : Ev} {l : List Ev} : Ord1 (x :: l) ↔ (∀ j, j < l.length → x.cmp (evAt l j) < 0) ∧ Ord1 l := by
  constructor
  · intro h
    refine ⟨fun j hj => ?_, fun i j hij hj => ?_⟩
    · have := h 0 (j + 1) (by omega) (by simpa using hj)
      rwa [evAt_head, evAt_cons] at this
    · have := h (i + 1) (j + 1) (by omega) (by simpa using hj)
      rwa [evAt_cons, evAt_cons] at this
  · rintro ⟨h1, h2⟩ i j hij hj
    cases j with
    | zero => omega
    | succ j =>
      rw [evAt_cons]
      cases i with
      | zero => rw [evAt_head]; exact h1 j (by simpa using hj)
      | succ i => rw [evAt_cons]; exact h2 i j (by omega) (by simpa using hj)
theorem ord_same : ∀ (s t : List Ev), Ord1 s → Ord1 t → (∀ e, InL e s ↔ InL e t) → s = t
  | [], [], _, _, _ => rfl
  | [], b :: t, _, _, h => by
    obtain ⟨j, hj, _⟩ := (h b).2 ⟨0, by simp, evAt_head _ _⟩
    simp at hj
  | a :: s, [], _, _, h => by
    obtain ⟨j, hj, _⟩ := (h a).1 ⟨0, by simp, evAt_head _ _⟩
    simp at hj
  | a :: s, b :: t, hs, ht, h => by
    obtain ⟨hs1, hs2⟩ := ord_cons.1 hs
    obtain ⟨ht1, ht2⟩ := ord_cons.1 ht
    have hab : a = b := by
      rcases inL_cons.1 ((h a).1 (inL_cons.2 (.inl rfl))) with h1 | ⟨i, hi, h1⟩
      · exact h1
      · rcases inL_cons.1 ((h b).2 (inL_cons.2 (.inl rfl))) with h2 | ⟨j, hj, h2⟩
        · exact h2.symm
        · have a1 := ht1 i hi
          have a2 := hs1 j hj
          rw [h1] at a1
          rw [h2] at a2
          exact absurd a1 (cmp_asymm a2)
    subst hab
    have hir : ∀ x : Ev, ¬ x.cmp x < 0 := fun x hx => cmp_asymm hx hx
    rw [ord_same s t hs2 ht2 fun e => ?_]
    constructor
    · intro he
      rcases inL_cons.1 ((h e).1 (inL_cons.2 (.inr he))) with h1 | h1
      · obtain ⟨i, hi, h2⟩ := he
        have := hs1 i hi
        rw [h2, h1] at this
        exact absurd this (hir _)
      · exact h1
    · intro he
      rcases inL_cons.1 ((h e).2 (inL_cons.2 (.inr he))) with h1 | h1
      · obtain ⟨i, hi, h2⟩ := he
        have := ht1 i hi
        rw [h2, h1] at this
        exact absurd this (hir _)
      · exact h1
end Go.Proofs.Yteecpandpkicmaa

/- The specification's EventCmp. -/
namespace Go.Proofs.Yteecpandpkicmaa
open Go.RowKit
set_option maxHeartbeats 2000000 in
theorem sCmp_any (t s q d k v g t' s' q' d' k' v' g' : Int) (w : World) :
    Calls Try.prog 18 #[.agg #[.int .i64 t, .int .i64 s, .int .i64 q, .int .i64 d, .int .i64 k, .int .i64 v, .int .i64 g], .agg #[.int .i64 t', .int .i64 s', .int .i64 q', .int .i64 d', .int .i64 k', .int .i64 v', .int .i64 g']] w fun e w' =>
      e = .returned (.int .i64 (ecmp t s q d k v g t' s' q' d' k' v' g')) ∧ Below w.heap.size w w' := by
  cases h1 : okB t s q d k v g
  · have H1 : Hid (okB t s q d k v g = false) := h1
    clear h1
    go_enter Try.func18, Try.ntmps18
    go_wp2_with fail
    refine (sOk_is t s q d k v g false H1.out _).mono ?_
    rintro e w1 ⟨rfl, hb1⟩
    go_wp2_with fail
    go_ret
    exact ⟨ret_int (by simp [ecmp, H1.out]), (((Below.refl _ _).alloc (Nat.le_refl _) _).alloc (by simp) _).trans (hb1.mono (by simp; omega))⟩
  · have H1 : Hid (okB t s q d k v g = true) := h1
    clear h1
    cases h2 : okB t' s' q' d' k' v' g'
    · have H2 : Hid (okB t' s' q' d' k' v' g' = false) := h2
      clear h2
      go_enter Try.func18, Try.ntmps18
      go_wp2_with fail
      refine (sOk_is t s q d k v g true H1.out _).mono ?_
      rintro e w1 ⟨rfl, hb1⟩
      obtain ⟨hc, hf⟩ := bcell hb1
      go_wp2_with fail
      refine (sOk_is t' s' q' d' k' v' g' false H2.out _).mono ?_
      rintro e w2 ⟨rfl, hb2⟩
      go_wp2_with fail
      go_ret
      exact ⟨ret_int (by simp [ecmp, H1.out, H2.out]), ((((Below.refl _ _).alloc (Nat.le_refl _) _).alloc (by simp) _).trans (hb1.mono (by simp; omega))).trans (hb2.mono (by have := hb1.size; simp at this; omega))⟩
    · have H2 : Hid (okB t' s' q' d' k' v' g' = true) := h2
      clear h2
      go_enter Try.func18, Try.ntmps18
      go_wp2_with fail
      refine (sOk_is t s q d k v g true H1.out _).mono ?_
      rintro e w1 ⟨rfl, hb1⟩
      obtain ⟨hc, hf⟩ := bcell hb1
      go_wp2_with fail
      refine (sOk_is t' s' q' d' k' v' g' true H2.out _).mono ?_
      rintro e w2 ⟨rfl, hb2⟩
      have hz1 : w.heap.size + 1 < w1.heap.size := by have := hb1.size; simp at this; omega
      have hz2 : w.heap.size + 1 < w2.heap.size := by have := hb2.size; omega
      have a0 : EvAt w2 w.heap.size 0 t s q d k v g := (((EvAt.new w 25 t s q d k v g).alloc (by simp) _).below hb1 (by simp; omega)).below hb2 (by omega)
      have a1 : EvAt w2 (w.heap.size + 1) 0 t' s' q' d' k' v' g' := (((by simpa using EvAt.new (w.alloc _) 25 t' s' q' d' k' v' g') : EvAt _ (w.heap.size + 1) 0 t' s' q' d' k' v' g').below hb1 (by simp)).below hb2 (by omega)
      have hB : Below w.heap.size w w2 := ((((Below.refl _ _).alloc (Nat.le_refl _) _).alloc (by simp) _).trans (hb1.mono (by simp; omega))).trans (hb2.mono (by omega))
      clear hb1 hb2 hc hf
      obtain ⟨f0, f1, f2, f3, f4, f5, f6⟩ := a0.lits
      obtain ⟨e0, e1, e2, e3, e4, e5, e6⟩ := a1.lits
      clear a0 a1
      go_wp2_with fail
      refine (l1cmp_any t s q d k v g t' s' q' d' k' v' g' _).mono ?_
      rintro e w3 ⟨rfl, hb3⟩
      go_wp2_with fail
      go_ret
      exact ⟨ret_int (by simp [ecmp, H1.out, H2.out]), hB.trans (hb3.mono (by omega))⟩
end Go.Proofs.Yteecpandpkicmaa

/- Good heaps stay good; what is popped one behind the other is in order and is all of it; a push and a drop of the same leave what was there. -/
namespace Go.Proofs.Yteecpandpkicmaa
open Go.RowKit
theorem goodH_parts {l : List Ev} (h : GoodH l) : HeapW l ∧ Uni l ∧ Kept (fun e => e.ok = true) l := by
  obtain ⟨_, h1, h2, h3⟩ := (goodH_iff l).1 h
  refine ⟨fun i h0 hi => Le.of_lt (h3 i hi h0), fun i j hi hj hg => ?_, h1⟩
  rcases Nat.lt_trichotomy i j with a | a | a
  · exact absurd hg (h2 j hj i a)
  · exact a
  · exact absurd hg.symm (h2 i hi j a)
theorem goodH_of {l : List Ev} (hl : l.length ≤ 2000) (hw : HeapW l) (hu : Uni l) (hk : Kept (fun e => e.ok = true) l) : GoodH l := by
  refine (goodH_iff l).2 ⟨hl, hk, fun i hi j hj hg => ?_, fun i hi h0 => ?_⟩
  · have := hu j i (by omega) hi hg
    omega
  · refine (hw i h0 hi).lt fun hg => ?_
    have := hu _ _ (by omega) hi hg
    omega
theorem goodH_push {l : List Ev} {e : Ev} (h : GoodH l) (he : e.ok = true) (hn : NoTag l e.g) (hl : l.length < 2000) : GoodH (pushL l e) := by
  obtain ⟨h1, h2, h3⟩ := goodH_parts h
  exact goodH_of (by rw [pushL_length]; omega) (push_heap h1) (uni_push h2 hn) (kept_pushL.2 ⟨h3, he⟩)
theorem kept_take {P : Ev → Prop} {l : List Ev} {i : Nat} (hi : i < l.length) (hu : Uni l) (h : Kept P l) : Kept P (takeL l i) := fun j hj => by
  obtain ⟨⟨k, hk, he⟩, _⟩ := (inL_take hi hu).1 ⟨j, hj, rfl⟩
  rw [← he]
  exact h k hk
theorem goodH_take {l : List Ev} {i : Nat} (h : GoodH l) (hi : i < l.length) : GoodH (takeL l i) := by
  obtain ⟨h1, h2, h3⟩ := goodH_parts h
  exact goodH_of (by have := h.1; rw [takeL_length]; omega) (take_heap h1 hi) (uni_take hi h2) (kept_take hi h2 h3)
theorem sort_in : ∀ (n : Nat) (l : List Ev), l.length = n → Uni l → ∀ e, (InL e (sortN n l) ↔ InL e l)
  | 0, l, hn, _, e => by
    have : l = [] := List.length_eq_zero_iff.1 hn
    subst this
    exact Iff.rfl
  | n + 1, l, hn, hu, e => by
    have h0 : 0 < l.length := by omega
    show InL e (evAt l 0 :: sortN n (takeL l 0)) ↔ _
    rw [inL_cons, sort_in n (takeL l 0) (by rw [takeL_length]; omega) (uni_take h0 hu) e, inL_take h0 hu]
    constructor
    · rintro (rfl | ⟨h, _⟩)
      · exact ⟨0, h0, rfl⟩
      · exact h
    · intro h
      by_cases he : e = evAt l 0
      · exact .inl he
      · exact .inr ⟨h, he⟩
theorem sort_ord : ∀ (n : Nat) (l : List Ev), l.length = n → HeapW l → Uni l → Ord1 (sortN n l)
  | 0, _, _, _, _ => fun i j _ hj => by simp [sortN] at hj
  | n + 1, l, hn, hw, hu => by
    have h0 : 0 < l.length := by omega
    show Ord1 (evAt l 0 :: sortN n (takeL l 0))
    have hn' : (takeL l 0).length = n := by rw [takeL_length]; omega
    refine ord_cons.2 ⟨fun j hj => ?_, sort_ord n _ hn' (take_heap hw h0) (uni_take h0 hu)⟩
    obtain ⟨k, hk, he⟩ := (sort_in n (takeL l 0) hn' (uni_take h0 hu) _).1 ⟨j, hj, rfl⟩
    rw [← he]
    exact take_first hw hu h0 k hk
theorem push_drop {l : List Ev} {e : Ev} (h : GoodH l) (he : e.ok = true) (hn : NoTag l e.g) (hl : l.length < 2000) : ∃ k, FirstAt (pushL l e) e.g k ∧ GoodH (takeL (pushL l e) k) ∧ sortN l.length (takeL (pushL l e) k) = sortN l.length l := by
  have hm := goodH_push h he hn hl
  obtain ⟨p1, p2, _⟩ := goodH_parts hm
  obtain ⟨h1, h2, _⟩ := goodH_parts h
  obtain ⟨j, hj, hje⟩ : InL e (pushL l e) := inL_push.2 (.inr rfl)
  rcases firstAt_or (pushL l e) e.g with ⟨k, hk⟩ | hno
  · have hkj : k = j := p2 k j hk.1 hj (by rw [hk.2.1, hje])
    subst hkj
    have hln : (takeL (pushL l e) k).length = l.length := by rw [takeL_length, pushL_length]; omega
    refine ⟨k, hk, goodH_take hm hk.1, ord_same _ _ (sort_ord _ _ hln (take_heap p1 hk.1) (uni_take hk.1 p2)) (sort_ord _ _ rfl h1 h2) fun x => ?_⟩
    rw [sort_in _ _ hln (uni_take hk.1 p2), sort_in _ _ rfl h2, inL_take hk.1 p2, inL_push, hje]
    constructor
    · rintro ⟨h | h, hx⟩
      · exact h
      · exact absurd h hx
    · intro hx
      refine ⟨.inl hx, fun hh => ?_⟩
      obtain ⟨i, hi, hie⟩ := hx
      exact hn i hi (by rw [hie, hh])
  · exact absurd (by rw [hje]) (hno j hj)
theorem pop_ahead {l : List Ev} (h : GoodH l) (h0 : 0 < l.length) (j : Nat) (hj : j < (takeL l 0).length) : (evAt l 0).ecmp (evAt (takeL l 0) j) < 0 := by
  obtain ⟨h1, h2, h3⟩ := goodH_parts h
  have ha : (evAt l 0).ok = true := h3 0 h0
  have hb : (evAt (takeL l 0) j).ok = true := kept_take h0 h2 h3 j hj
  have hc := take_first h1 h2 h0 j hj
  unfold Ev.ecmp ecmp
  rw [if_pos ⟨ha, hb⟩]
  exact hc
theorem sCmp_ev (a b : Ev) (z : Int) (h : a.ecmp b = z) (w : World) : Calls Try.prog 18 #[a.val, b.val] w fun r w' => r = .returned (.int .i64 z) ∧ Below w.heap.size w w' := by
  subst h
  exact sCmp_any _ _ _ _ _ _ _ _ _ _ _ _ _ _ w
end Go.Proofs.Yteecpandpkicmaa

