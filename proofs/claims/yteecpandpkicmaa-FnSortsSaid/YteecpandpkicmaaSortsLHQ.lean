/- What is drawn for heaps: l0draw, DrawHeapPush. -/
import Derived.Test.YteecpandpkicmaaSortsG26
namespace Go.Proofs.Yteecpandpkicmaa
open Go.RowKit
set_option maxRecDepth 100000 in
set_option maxHeartbeats 4000000 in
theorem heapDraw_any (c : Nat) (fr : Int) (w : World) (H : Cur w c) :
    Calls Try.prog 39 #[.pointer (some ⟨c, 0, none⟩), .int .i64 fr] w fun r w' => ∃ v l, r = .returned v ∧ OwnR w.heap.size w' v l ∧ l.length ≤ 10 ∧ Cur w' c ∧ Turns (fun k => k = c) w w' := by
  have hcw := H.lt
  have HC : Hid (Cur w c) := H
  clear H
  obtain ⟨i0, hi, hz0, hz1, hz2⟩ := info_parts info25
  go_enter Try.func39, Try.ntmps39
  go_wp2_with fail
  refine (below_any c _ _ HC.out).mono ?_
  rintro r w1 ⟨x, rfl, hx0, hx1, hC1, hT1⟩
  have hx8 := hx1 (by omega)
  obtain ⟨m, rfl⟩ : ∃ m : Nat, x = (m : Int) := ⟨x.toNat, by omega⟩
  have hm : m ≤ 9 := by omega
  have HC1 : Hid (Cur w1 c) := hC1
  have HT1 : Hid (Turns (fun k => k = c) w w1) := hT1
  clear hC1 hT1 hx1 hx8 hx0
  go_wp2
  go_loopw [5, 7] (fun o i wr => ∃ (k : Nat) (v : Value) (l : List Ev), k ≤ m ∧ v = o ∧ i = .int .i64 k ∧ OwnR w.heap.size wr v l ∧ l.length ≤ k ∧ Cur wr c ∧ Turns (fun k => k = c) w wr) (fun _ i _ => m - (intOf i).toNat)
  case atStart => exact ⟨0, _, [], Nat.zero_le _, rfl, rfl, OwnR.nil _ _, Nat.le_refl _, HC1.out, HT1.out⟩
  case round =>
    obtain ⟨k, v, l, hk, rfl, rfl, hR, hlk, hCr, hTr⟩ := hrel
    have HR : Hid (OwnR w.heap.size wr v l) := hR
    have HCr : Hid (Cur wr c) := hCr
    have HTr : Hid (Turns (fun k => k = c) w wr) := hTr
    clear hR hCr hTr HC1 HT1
    by_cases hlt : k < m
    · go_wp2_with fail
      refine (draw_any c _ HCr.out).mono ?_
      rintro r w2 ⟨e, rfl, hC2, hT2⟩
      have HC2 : Hid (Cur w2 c) := hC2
      have HT2 : Hid (Turns (fun k => k = c) w w2) := HTr.out.trans hT2
      have HR2 : Hid (OwnR w.heap.size w2 v l) := HR.out.turns hT2 (fun k hk => by omega)
      clear hC2 hT2 HCr HTr HR
      obtain ⟨f0, f1, f2, f3, f4, f5, f6⟩ := (Bx.new w2 25 e).ev
      simp only [Nat.zero_add] at f1 f2 f3 f4 f5 f6
      go_wp2_with fail
      clear f0 f1 f2 f3 f4 f5 f6
      generalize wrap64 (e.g + fr) = gg
      have HR2a : Hid (OwnR w.heap.size (w2.alloc (.cells #[.int .i64 e.t, .int .i64 e.s, .int .i64 e.q, .int .i64 e.d, .int .i64 e.k, .int .i64 e.v, .int .i64 gg] 25)) v l) := HR2.out.turns ((Turns.refl (fun _ => False) w2).alloc _) (fun _ h => h.elim)
      have hl5 : l.length ≤ 1048576 := by omega
      refine (find_row gg HR2a.out hl5).mono ?_
      rintro r w3 ⟨⟨x, rfl⟩, hw3⟩
      obtain rfl := hw3.symm
      clear hw3
      obtain ⟨⟨f0, f1, f2, f3, f4, f5, f6⟩, _, _⟩ := Bx.new w2 25 ⟨e.t, e.s, e.q, e.d, e.k, e.v, gg⟩
      simp only [Nat.zero_add] at f1 f2 f3 f4 f5 f6
      by_cases hx : x < 0
      · go_wp2_with fail
        refine (sPush_any v l ⟨e.t, e.s, e.q, e.d, e.k, e.v, gg⟩ _ (by omega) HR2a.out.src).mono ?_
        rintro r w4 ⟨y, rfl, hR4, hB4⟩
        have hl4 := pushL_length l ⟨e.t, e.s, e.q, e.d, e.k, e.v, gg⟩
        have HR4 : Hid (OwnR w.heap.size w4 y (pushL l ⟨e.t, e.s, e.q, e.d, e.k, e.v, gg⟩)) := hR4.mono (by have := HT2.out.size; simp; omega)
        have HC4 : Hid (Cur w4 c) := (HC2.out.alloc _).below hB4 (by have := HT2.out.size; simp; omega)
        have HT4 : Hid (Turns (fun k => k = c) w w4) := (HT2.out.alloc _).trans (Turns.of_below hB4)
        clear hR4 hB4
        go_wp2
        go_roundw
        case rel => exact ⟨k + 1, _, _, by omega, rfl, by go_num, HR4.out, by omega, HC4.out, HT4.out⟩
        case measure => simp [intOf]; omega
      · go_wp2
        go_roundw
        case rel => exact ⟨k + 1, _, l, by omega, rfl, by go_num, HR2a.out, by omega, HC2.out.alloc _, HT2.out.alloc _⟩
        case measure => simp [intOf]; omega
    · go_wp2_with fail
      refine (once_any c _ _ HCr.out).mono ?_
      rintro r w2 ⟨x, rfl, hC2, hT2⟩
      have HC2 : Hid (Cur w2 c) := hC2
      have HT2 : Hid (Turns (fun k => k = c) w w2) := HTr.out.trans hT2
      have HR2 : Hid (OwnR w.heap.size w2 v l) := HR.out.turns hT2 (fun k hk => by omega)
      clear hC2 hT2 HCr HTr HR
      cases x with
      | false =>
        go_wp2
        go_ret
        exact ⟨v, l, rfl, HR2.out, by omega, HC2.out, HT2.out⟩
      | true =>
        go_wp2_with fail
        refine (bent_any c _ HC2.out).mono ?_
        rintro r w3 ⟨e, rfl, hC3, hT3⟩
        have HC3 : Hid (Cur w3 c) := hC3
        have HT3 : Hid (Turns (fun k => k = c) w w3) := HT2.out.trans hT3
        have HR3 : Hid (OwnR w.heap.size w3 v l) := HR2.out.turns hT3 (fun k hk => by omega)
        have hs3 := HT3.out.size
        clear hC3 hT3 HC2 HT2 HR2
        go_wp2_with (at_builtin; refine wpList_append_own _ rfl _ _ 23 rfl w.heap.size 25 i0 _ 7 56 Try.underlying23 hi hz0 hz1 hz2 rfl (by decide) v _ _ rfl (World.ownsRow.alloc HR3.out _) ⟨w3.heap.size, 0, none⟩ 1 1 e.cs rfl rfl (Ev.In.cells (EvAt.new _ _ _ _ _ _ _ _ _)) (Ev.cs_one e) (by unfold maxLen; omega) (by omega) (by simp; omega) ?_; intro v' w4 hown hgrow hnil)
        go_ret
        have hB4 : Below (w3.heap.size) w3 (w3.alloc (.cells #[.int .i64 e.t, .int .i64 e.s, .int .i64 e.q, .int .i64 e.d, .int .i64 e.k, .int .i64 e.v, .int .i64 e.g] 25)) := (Below.refl _ w3).alloc (Nat.le_refl _) _
        have hT4 : Turns (fun k => w.heap.size ≤ k) (w3.alloc (.cells #[.int .i64 e.t, .int .i64 e.s, .int .i64 e.q, .int .i64 e.d, .int .i64 e.k, .int .i64 e.v, .int .i64 e.g] 25)) w4 := ⟨hgrow.os, hgrow.tape, hgrow.output, hgrow.size, fun j hj hn => hgrow.block j hj (fun er => hn (row_ge HR3.out er.symm))⟩
        refine ⟨v', l ++ [e], rfl, ?_, by simp; omega, (HC3.out.alloc _).below (B := w.heap.size) (hT4.to_below (fun k hk => hk) (by simp; omega)) hcw, ?_⟩
        · unfold OwnR
          rw [List.length_append, cellsL_append]
          simpa [cellsL] using hown
        · exact (((HT3.out.alloc _).mono (S' := fun k => k = c ∨ w.heap.size ≤ k) (fun k hk => .inl hk)).trans (hT4.mono (fun k hk => .inr hk))).old (fun k hk h => h.resolve_right (by omega))
set_option maxHeartbeats 4000000 in
theorem drawPush_any (a : Option Addr) (n cap : Nat) (w : World) (hn : n ≤ 281474976710656) (hC : CodeIn w w.heap.size a n) :
    Calls Try.prog 14 #[.slice a n cap] w fun r w' => ∃ v l, ∃ e : Ev, r = .returned (.tuple #[v, e.val]) ∧ OwnR w.heap.size w' v l ∧ l.length ≤ 10 ∧ Below w.heap.size w w' := by
  have HC : Hid (CodeIn w w.heap.size a n) := hC
  clear hC
  have HB0 : Hid (Below w.heap.size w (w.alloc (.cells #[.int .i64 0, .int .i64 0, .int .i64 0, .int .i64 0, .int .i64 0, .int .i64 0, .int .i64 0] 25))) := (Below.refl _ w).alloc (Nat.le_refl _) _
  have HX0 : Hid (Bx (w.alloc (.cells #[.int .i64 0, .int .i64 0, .int .i64 0, .int .i64 0, .int .i64 0, .int .i64 0, .int .i64 0] 25)) w.heap.size ⟨0, 0, 0, 0, 0, 0, 0⟩) := Bx.new w 25 ⟨0, 0, 0, 0, 0, 0, 0⟩
  go_enter Try.func14, Try.ntmps14
  go_wp2_with fail
  refine (new_any a n cap _ hn ((HC.out.below HB0.out (Nat.le_refl _)).mono HB0.out.size)).mono ?_
  rintro r w1 ⟨c, rfl, hc, hC1, hB1⟩
  have HC1 : Hid (Cur w1 c) := hC1
  have HB1 : Hid (Below w.heap.size w w1) := HB0.out.trans (hB1.mono HB0.out.size)
  have HX1 : Hid (Bx w1 w.heap.size ⟨0, 0, 0, 0, 0, 0, 0⟩) := HX0.out.turns (S := fun _ => False) (Turns.of_below hB1) id
  have hcw : w.heap.size < c := by simp at hc; omega
  clear hC1 hB1 HX0 HB0
  go_wp2_with fail
  refine (heapDraw_any c 0 _ HC1.out).mono ?_
  rintro r w2 ⟨v, l, rfl, hR2, hl2, hC2, hT2⟩
  have HC2 : Hid (Cur w2 c) := hC2
  have HX2 : Hid (Bx w2 w.heap.size ⟨0, 0, 0, 0, 0, 0, 0⟩) := HX1.out.turns hT2 (by omega)
  have HR2 : Hid (OwnR w1.heap.size w2 v l) := hR2
  have HB2 : Hid (Below w.heap.size w w2) := HB1.out.trans (hT2.to_below (fun k hk => by omega) HB1.out.size)
  have hcw1 : c < w1.heap.size := HC1.out.lt
  have hw1 : w.heap.size ≤ w1.heap.size := HB1.out.size
  clear hC2 hR2 hT2 HX1 HC1
  go_wp2_with fail
  refine (bent_any c _ HC2.out).mono ?_
  rintro r w3 ⟨e, rfl, hC3, hT3⟩
  have HX3 : Hid (Bx w3 w.heap.size ⟨0, 0, 0, 0, 0, 0, 0⟩) := HX2.out.turns hT3 (by omega)
  have HR3 : Hid (OwnR w1.heap.size w3 v l) := HR2.out.turns hT3 (fun k hk => by omega)
  have HB3 : Hid (Below w.heap.size w w3) := HB2.out.trans (hT3.to_below (fun k hk => by omega) HB2.out.size)
  clear hC3 hT3 HX2 HR2 HB1 HB2
  obtain ⟨⟨f0, f1, f2, f3, f4, f5, f6⟩, hfz, hlt⟩ := HX3.out
  simp only [Nat.zero_add] at f1 f2 f3 f4 f5 f6
  go_wp2
  refine bodyPost_ret (v := .tuple #[v, e.val]) (by simp [results, Try.results14, go_sem, f0, f1, f2, f3, f4, f5, f6]) rfl ⟨v, l, e, rfl, ?_, hl2, ?_⟩
  · have hne : ∀ k, (fun k => k = w.heap.size) k → k < w1.heap.size := fun k hk => by have : k = w.heap.size := hk; omega
    exact ((HR3.out.turns ((((((((Turns.refl (fun k => k = w.heap.size) w3).setCell (p := ⟨w.heap.size, 0, none⟩) rfl _).setCell (p := ⟨w.heap.size, 1, none⟩) rfl _).setCell (p := ⟨w.heap.size, 2, none⟩) rfl _).setCell (p := ⟨w.heap.size, 3, none⟩) rfl _).setCell (p := ⟨w.heap.size, 4, none⟩) rfl _).setCell (p := ⟨w.heap.size, 5, none⟩) rfl _).setCell (p := ⟨w.heap.size, 6, none⟩) rfl _) hne).mono hw1)
  · exact ((((((HB3.out.setCell (Nat.le_refl _) _).setCell (Nat.le_refl _) _).setCell (Nat.le_refl _) _).setCell (Nat.le_refl _) _).setCell (Nat.le_refl _) _).setCell (Nat.le_refl _) _).setCell (Nat.le_refl _) _

end Go.Proofs.Yteecpandpkicmaa
