/- What is drawn for events and queues: whatever events come out. -/
import Derived.Test.YtmpoffepoafblaaGreatHandlesG24
import Derived.Test.YtmpoffepoafblaaGreatHandlesG25
import Derived.Test.YtmpoffepoafblaaGreatHandlesG28
namespace Go.Proofs.YtmpoffepoafblaaGreat
open Go.RowKit

theorem lst6 (w : World) (T : TypeId) (y0 y1 y2 y3 y4 y5 : Int) : ListAt (w.alloc (.cells #[.int .i64 y0, .int .i64 y1, .int .i64 y2, .int .i64 y3, .int .i64 y4, .int .i64 y5] T)) w.heap.size 6 (fun _ => True) :=
  ⟨by simp, fun j hj => by
    match j, hj with
    | 0, _ => exact ⟨y0, trivial, by simp⟩
    | 1, _ => exact ⟨y1, trivial, by simp⟩
    | 2, _ => exact ⟨y2, trivial, by simp⟩
    | 3, _ => exact ⟨y3, trivial, by simp⟩
    | 4, _ => exact ⟨y4, trivial, by simp⟩
    | 5, _ => exact ⟨y5, trivial, by simp⟩⟩
theorem lst3 (w : World) (T : TypeId) (y0 y1 y2 : Int) : ListAt (w.alloc (.cells #[.int .i64 y0, .int .i64 y1, .int .i64 y2] T)) w.heap.size 3 (fun _ => True) :=
  ⟨by simp, fun j hj => by
    match j, hj with
    | 0, _ => exact ⟨y0, trivial, by simp⟩
    | 1, _ => exact ⟨y1, trivial, by simp⟩
    | 2, _ => exact ⟨y2, trivial, by simp⟩⟩

theorem Cur.ne {w : World} {c : Nat} (H : Cur w c) : ¬ w.heap.size = c := by have := H.lt; omega
/- An event in a block of its own that may be written. -/
structure Bx (w : World) (b : Nat) (e : Ev) : Prop where
  ev : Ev.In w b 0 e
  fz : ∀ o, w.frozen? ⟨b, o, none⟩ = false
  lt : b < w.heap.size
theorem Bx.turns {S : Nat → Prop} {w w' : World} {b : Nat} {e : Ev} (h : Bx w b e) (ht : Turns S w w') (hS : ¬ S b) : Bx w' b e :=
  ⟨⟨(ht.cell h.lt hS).trans h.ev.f0, (ht.cell h.lt hS).trans h.ev.f1, (ht.cell h.lt hS).trans h.ev.f2, (ht.cell h.lt hS).trans h.ev.f3, (ht.cell h.lt hS).trans h.ev.f4, (ht.cell h.lt hS).trans h.ev.f5, (ht.cell h.lt hS).trans h.ev.f6⟩, fun o => (ht.frozen h.lt hS).trans (h.fz o), by have := h.lt; have := ht.size; omega⟩
theorem Bx.new (w : World) (T : TypeId) (e : Ev) : Bx (w.alloc (.cells #[.int .i64 e.t, .int .i64 e.s, .int .i64 e.q, .int .i64 e.d, .int .i64 e.k, .int .i64 e.v, .int .i64 e.g] T)) w.heap.size e :=
  ⟨EvAt.new w T e.t e.s e.q e.d e.k e.v e.g, fun o => by simp, by simp⟩

set_option maxHeartbeats 4000000 in
theorem evDraw_any (c : Nat) (w : World) (H : Cur w c) :
    Calls Tryz.prog 81 #[.pointer (some ⟨c, 0, none⟩)] w fun r w' => ∃ e : Ev, r = .returned e.val ∧ Cur w' c ∧ Turns (fun k => k = c) w w' := by
  have hcw := H.lt
  have HC0 : Hid (Cur (w.alloc (.cells #[.int .i64 0, .int .i64 0, .int .i64 0, .int .i64 0, .int .i64 0, .int .i64 0, .int .i64 0] 50)) c) := H.alloc _
  have HX0 : Hid (Bx (w.alloc (.cells #[.int .i64 0, .int .i64 0, .int .i64 0, .int .i64 0, .int .i64 0, .int .i64 0, .int .i64 0] 50)) w.heap.size ⟨0, 0, 0, 0, 0, 0, 0⟩) := Bx.new w 50 ⟨0, 0, 0, 0, 0, 0, 0⟩
  have HT0 : Hid (Turns (fun k => k = c) w (w.alloc (.cells #[.int .i64 0, .int .i64 0, .int .i64 0, .int .i64 0, .int .i64 0, .int .i64 0, .int .i64 0] 50))) := (Turns.refl _ w).alloc _
  clear H
  go_enter Tryz.func81, Tryz.ntmps81
  go_wp2_with fail
  refine (below_any c _ _ HC0.out).mono ?_
  rintro e w1 ⟨x0, rfl, hx00, _, hC1, hT1⟩
  have HC1 : Hid (Cur w1 c) := hC1
  have HX1 : Hid (Bx w1 w.heap.size ⟨0, 0, 0, 0, 0, 0, 0⟩) := HX0.out.turns hT1 (by omega)
  have HT1 : Hid (Turns (fun k => k = c) w w1) := HT0.out.trans hT1
  clear hC1 hT1 HC0 HX0 HT0
  go_wp2_with fail
  refine (pick_any c w1.heap.size 6 (fun _ => True) _ (by omega) (by omega) HC1.out.ne (HC1.out.alloc _) (lst6 _ _ _ _ _ _ _ _)).mono ?_
  rintro e w2 ⟨x1, rfl, _, hC2, hT2⟩
  have HC2 : Hid (Cur w2 c) := hC2
  have HX2 : Hid (Bx w2 w.heap.size ⟨0, 0, 0, 0, 0, 0, 0⟩) := (HX1.out.turns ((Turns.refl (fun k => k = c) w1).alloc _) (by omega)).turns hT2 (by omega)
  have HT2 : Hid (Turns (fun k => k = c) w w2) := (HT1.out.alloc _).trans hT2
  clear hC2 hT2 HC1 HX1 HT1
  go_wp2_with fail
  refine (below_any c _ _ HC2.out).mono ?_
  rintro e w3 ⟨x2, rfl, hx20, _, hC3, hT3⟩
  have HC3 : Hid (Cur w3 c) := hC3
  have HX3 : Hid (Bx w3 w.heap.size ⟨0, 0, 0, 0, 0, 0, 0⟩) := HX2.out.turns hT3 (by omega)
  have HT3 : Hid (Turns (fun k => k = c) w w3) := HT2.out.trans hT3
  clear hC3 hT3 HC2 HX2 HT2
  go_wp2_with fail
  refine (below_any c _ _ HC3.out).mono ?_
  rintro e w4 ⟨x3, rfl, hx30, _, hC4, hT4⟩
  have HC4 : Hid (Cur w4 c) := hC4
  have HX4 : Hid (Bx w4 w.heap.size ⟨0, 0, 0, 0, 0, 0, 0⟩) := HX3.out.turns hT4 (by omega)
  have HT4 : Hid (Turns (fun k => k = c) w w4) := HT3.out.trans hT4
  clear hC4 hT4 HC3 HX3 HT3
  go_wp2_with fail
  refine (below_any c _ _ HC4.out).mono ?_
  rintro e w5 ⟨x4, rfl, hx40, _, hC5, hT5⟩
  have HC5 : Hid (Cur w5 c) := hC5
  have HX5 : Hid (Bx w5 w.heap.size ⟨0, 0, 0, 0, 0, 0, 0⟩) := HX4.out.turns hT5 (by omega)
  have HT5 : Hid (Turns (fun k => k = c) w w5) := HT4.out.trans hT5
  clear hC5 hT5 HC4 HX4 HT4
  go_wp2_with fail
  refine (below_any c _ _ HC5.out).mono ?_
  rintro e w6 ⟨x5, rfl, hx50, _, hC6, hT6⟩
  have HC6 : Hid (Cur w6 c) := hC6
  have HX6 : Hid (Bx w6 w.heap.size ⟨0, 0, 0, 0, 0, 0, 0⟩) := HX5.out.turns hT6 (by omega)
  have HT6 : Hid (Turns (fun k => k = c) w w6) := HT5.out.trans hT6
  clear hC6 hT6 HC5 HX5 HT5
  go_wp2_with fail
  refine (below_any c _ _ HC6.out).mono ?_
  rintro e w7 ⟨x6, rfl, hx60, _, hC7, hT7⟩
  have HC7 : Hid (Cur w7 c) := hC7
  have HX7 : Hid (Bx w7 w.heap.size ⟨0, 0, 0, 0, 0, 0, 0⟩) := HX6.out.turns hT7 (by omega)
  have HT7 : Hid (Turns (fun k => k = c) w w7) := HT6.out.trans hT7
  clear hC7 hT7 HC6 HX6 HT6
  go_wp2_with fail
  refine (below_any c _ _ HC7.out).mono ?_
  rintro e w8 ⟨x7, rfl, hx70, _, hC8, hT8⟩
  have HC8 : Hid (Cur w8 c) := hC8
  have HX8 : Hid (Bx w8 w.heap.size ⟨0, 0, 0, 0, 0, 0, 0⟩) := HX7.out.turns hT8 (by omega)
  have HT8 : Hid (Turns (fun k => k = c) w w8) := HT7.out.trans hT8
  clear hC8 hT8 HC7 HX7 HT7
  obtain ⟨⟨f0, f1, f2, f3, f4, f5, f6⟩, hfz, hlt⟩ := HX8.out
  simp only [Nat.zero_add] at f1 f2 f3 f4 f5 f6
  go_wp2
  refine bodyPost_ret (v := .agg #[.int .i64 x1, .int .i64 (x2 - 1), .int .i64 x3, .int .i64 x4, .int .i64 x5, .int .i64 x6, .int .i64 x7]) (by simp [results, Tryz.results81, go_sem, f0, f1, f2, f3, f4, f5, f6]) rfl ⟨⟨x1, x2 - 1, x3, x4, x5, x6, x7⟩, rfl, ?_, ?_⟩
  · exact ((((((HC8.out.set hcw _).set hcw _).set hcw _).set hcw _).set hcw _).set hcw _).set hcw _
  · exact ((((((((HT8.out.mono (S' := fun k => k = c ∨ k = w.heap.size) (fun k hk => .inl hk)).setCell (p := ⟨w.heap.size, 0, none⟩) (.inr rfl) _).setCell (p := ⟨w.heap.size, 1, none⟩) (.inr rfl) _).setCell (p := ⟨w.heap.size, 2, none⟩) (.inr rfl) _).setCell (p := ⟨w.heap.size, 3, none⟩) (.inr rfl) _).setCell (p := ⟨w.heap.size, 4, none⟩) (.inr rfl) _).setCell (p := ⟨w.heap.size, 5, none⟩) (.inr rfl) _).setCell (p := ⟨w.heap.size, 6, none⟩) (.inr rfl) _).old (fun k hk h => h.resolve_right (by omega))

set_option maxHeartbeats 8000000 in
theorem evBent_any (c : Nat) (w : World) (H : Cur w c) :
    Calls Tryz.prog 84 #[.pointer (some ⟨c, 0, none⟩)] w fun r w' => ∃ e : Ev, r = .returned e.val ∧ Cur w' c ∧ Turns (fun k => k = c) w w' := by
  have hcw := H.lt
  have HC0 : Hid (Cur (w.alloc (.cells #[.int .i64 0, .int .i64 0, .int .i64 0, .int .i64 0, .int .i64 0, .int .i64 0, .int .i64 0] 50)) c) := H.alloc _
  have HX0 : Hid (Bx (w.alloc (.cells #[.int .i64 0, .int .i64 0, .int .i64 0, .int .i64 0, .int .i64 0, .int .i64 0, .int .i64 0] 50)) w.heap.size ⟨0, 0, 0, 0, 0, 0, 0⟩) := Bx.new w 50 ⟨0, 0, 0, 0, 0, 0, 0⟩
  have HT0 : Hid (Turns (fun k => k = c) w (w.alloc (.cells #[.int .i64 0, .int .i64 0, .int .i64 0, .int .i64 0, .int .i64 0, .int .i64 0, .int .i64 0] 50))) := (Turns.refl _ w).alloc _
  clear H
  go_enter Tryz.func84, Tryz.ntmps84
  go_wp2_with fail
  refine (evDraw_any c _ HC0.out).mono ?_
  rintro r w1 ⟨e, rfl, hC1, hT1⟩
  have HC1 : Hid (Cur w1 c) := hC1
  have HX1 : Hid (Bx w1 w.heap.size ⟨0, 0, 0, 0, 0, 0, 0⟩) := HX0.out.turns hT1 (by omega)
  have HT1 : Hid (Turns (fun k => k = c) w w1) := HT0.out.trans hT1
  have hs1 : w.heap.size < w1.heap.size := HX1.out.lt
  clear hC1 hT1 HC0 HX0 HT0
  have hn1 : ¬ w.heap.size = w1.heap.size := by omega
  have hn2 : ¬ w1.heap.size = w.heap.size := by omega
  have hcw1 : c < w1.heap.size := by omega
  go_wp2_with fail
  refine (once_any c _ _ (HC1.out.alloc _)).mono ?_
  rintro r w2 ⟨x, rfl, hC2, hT2⟩
  have HC2 : Hid (Cur w2 c) := hC2
  have HX2 : Hid (Bx w2 w.heap.size ⟨0, 0, 0, 0, 0, 0, 0⟩) := (HX1.out.turns ((Turns.refl (fun k => k = c) w1).alloc _) (by omega)).turns hT2 (by omega)
  have HE2 : Hid (Bx w2 w1.heap.size e) := (Bx.new w1 50 e).turns hT2 (by omega)
  have HT2 : Hid (Turns (fun k => k = c) w w2) := (HT1.out.alloc _).trans hT2
  clear hC2 hT2 HC1 HX1 HT1
  cases x with
  | false =>
    obtain ⟨⟨f0, f1, f2, f3, f4, f5, f6⟩, hfz, hlt⟩ := HX2.out
    obtain ⟨⟨g0, g1, g2, g3, g4, g5, g6⟩, hgz, hgt⟩ := HE2.out
    simp only [Nat.zero_add] at f1 f2 f3 f4 f5 f6 g1 g2 g3 g4 g5 g6
    go_wp2
    refine bodyPost_ret (v := e.val) (by simp [results, Tryz.results84, go_sem, f0, f1, f2, f3, f4, f5, f6]) rfl ⟨e, rfl, ?_, ?_⟩
    · exact ((((((HC2.out.set hcw _).set hcw _).set hcw _).set hcw _).set hcw _).set hcw _).set hcw _
    · exact ((((((((HT2.out.mono (S' := fun k => k = c ∨ w.heap.size ≤ k) (fun k hk => .inl hk)).setCell (p := ⟨w.heap.size, 0, none⟩) (.inr (Nat.le_refl _)) _).setCell (p := ⟨w.heap.size, 1, none⟩) (.inr (Nat.le_refl _)) _).setCell (p := ⟨w.heap.size, 2, none⟩) (.inr (Nat.le_refl _)) _).setCell (p := ⟨w.heap.size, 3, none⟩) (.inr (Nat.le_refl _)) _).setCell (p := ⟨w.heap.size, 4, none⟩) (.inr (Nat.le_refl _)) _).setCell (p := ⟨w.heap.size, 5, none⟩) (.inr (Nat.le_refl _)) _).setCell (p := ⟨w.heap.size, 6, none⟩) (.inr (Nat.le_refl _)) _).old (fun k hk h => h.resolve_right (by omega))
  | true =>
    go_wp2_with fail
    refine (below_any c _ _ HC2.out).mono ?_
    rintro r w3 ⟨x, rfl, hx0, hx1, hC3, hT3⟩
    have hx7 := hx1 (by omega)
    have HC3 : Hid (Cur w3 c) := hC3
    have HX3 : Hid (Bx w3 w.heap.size ⟨0, 0, 0, 0, 0, 0, 0⟩) := HX2.out.turns hT3 (by omega)
    have HE3 : Hid (Bx w3 w1.heap.size e) := HE2.out.turns hT3 (by omega)
    have HT3 : Hid (Turns (fun k => k = c) w w3) := HT2.out.trans hT3
    clear hC3 hT3 HC2 HX2 HT2 HE2 hx1
    have h7 : x = 0 ∨ x = 1 ∨ x = 2 ∨ x = 3 ∨ x = 4 ∨ x = 5 ∨ x = 6 := by omega
    clear hx0 hx7
    rcases h7 with rfl | rfl | rfl | rfl | rfl | rfl | rfl
    · go_wp2_with fail
      refine (pick_any c w3.heap.size 3 (fun _ => True) _ (by omega) (by omega) HC3.out.ne (HC3.out.alloc _) (lst3 _ _ _ _ _)).mono ?_
      rintro r w4 ⟨y, rfl, _, hC4, hT4⟩
      have HC4 : Hid (Cur w4 c) := hC4
      have HX4 : Hid (Bx w4 w.heap.size ⟨0, 0, 0, 0, 0, 0, 0⟩) := (HX3.out.turns ((Turns.refl (fun k => k = c) w3).alloc _) (by omega)).turns hT4 (by omega)
      have HE4 : Hid (Bx w4 w1.heap.size e) := (HE3.out.turns ((Turns.refl (fun k => k = c) w3).alloc _) (by omega)).turns hT4 (by omega)
      have HT4 : Hid (Turns (fun k => k = c) w w4) := (HT3.out.alloc _).trans hT4
      clear hC4 hT4 HC3 HX3 HT3 HE3
      obtain ⟨⟨f0, f1, f2, f3, f4, f5, f6⟩, hfz, hlt⟩ := HX4.out
      obtain ⟨⟨g0, g1, g2, g3, g4, g5, g6⟩, hgz, hgt⟩ := HE4.out
      simp only [Nat.zero_add] at f1 f2 f3 f4 f5 f6 g1 g2 g3 g4 g5 g6
      go_wp2
      refine bodyPost_ret (v := .agg #[.int .i64 y, .int .i64 e.s, .int .i64 e.q, .int .i64 e.d, .int .i64 e.k, .int .i64 e.v, .int .i64 e.g]) (by simp [results, Tryz.results84, go_sem, f0, f1, f2, f3, f4, f5, f6]) rfl ⟨⟨y, e.s, e.q, e.d, e.k, e.v, e.g⟩, rfl, ?_, ?_⟩
      · exact (((((((HC4.out.set hcw1 _).set hcw _).set hcw _).set hcw _).set hcw _).set hcw _).set hcw _).set hcw _
      · exact (((((((((HT4.out.mono (S' := fun k => k = c ∨ w.heap.size ≤ k) (fun k hk => .inl hk)).setCell (p := ⟨w1.heap.size, 0, none⟩) (.inr (Nat.le_of_lt hs1)) _).setCell (p := ⟨w.heap.size, 0, none⟩) (.inr (Nat.le_refl _)) _).setCell (p := ⟨w.heap.size, 1, none⟩) (.inr (Nat.le_refl _)) _).setCell (p := ⟨w.heap.size, 2, none⟩) (.inr (Nat.le_refl _)) _).setCell (p := ⟨w.heap.size, 3, none⟩) (.inr (Nat.le_refl _)) _).setCell (p := ⟨w.heap.size, 4, none⟩) (.inr (Nat.le_refl _)) _).setCell (p := ⟨w.heap.size, 5, none⟩) (.inr (Nat.le_refl _)) _).setCell (p := ⟨w.heap.size, 6, none⟩) (.inr (Nat.le_refl _)) _).old (fun k hk h => h.resolve_right (by omega))
    · go_wp2_with fail
      refine (pick_any c w3.heap.size 3 (fun _ => True) _ (by omega) (by omega) HC3.out.ne (HC3.out.alloc _) (lst3 _ _ _ _ _)).mono ?_
      rintro r w4 ⟨y, rfl, _, hC4, hT4⟩
      have HC4 : Hid (Cur w4 c) := hC4
      have HX4 : Hid (Bx w4 w.heap.size ⟨0, 0, 0, 0, 0, 0, 0⟩) := (HX3.out.turns ((Turns.refl (fun k => k = c) w3).alloc _) (by omega)).turns hT4 (by omega)
      have HE4 : Hid (Bx w4 w1.heap.size e) := (HE3.out.turns ((Turns.refl (fun k => k = c) w3).alloc _) (by omega)).turns hT4 (by omega)
      have HT4 : Hid (Turns (fun k => k = c) w w4) := (HT3.out.alloc _).trans hT4
      clear hC4 hT4 HC3 HX3 HT3 HE3
      obtain ⟨⟨f0, f1, f2, f3, f4, f5, f6⟩, hfz, hlt⟩ := HX4.out
      obtain ⟨⟨g0, g1, g2, g3, g4, g5, g6⟩, hgz, hgt⟩ := HE4.out
      simp only [Nat.zero_add] at f1 f2 f3 f4 f5 f6 g1 g2 g3 g4 g5 g6
      go_wp2
      refine bodyPost_ret (v := .agg #[.int .i64 e.t, .int .i64 y, .int .i64 e.q, .int .i64 e.d, .int .i64 e.k, .int .i64 e.v, .int .i64 e.g]) (by simp [results, Tryz.results84, go_sem, f0, f1, f2, f3, f4, f5, f6]) rfl ⟨⟨e.t, y, e.q, e.d, e.k, e.v, e.g⟩, rfl, ?_, ?_⟩
      · exact (((((((HC4.out.set hcw1 _).set hcw _).set hcw _).set hcw _).set hcw _).set hcw _).set hcw _).set hcw _
      · exact (((((((((HT4.out.mono (S' := fun k => k = c ∨ w.heap.size ≤ k) (fun k hk => .inl hk)).setCell (p := ⟨w1.heap.size, 1, none⟩) (.inr (Nat.le_of_lt hs1)) _).setCell (p := ⟨w.heap.size, 0, none⟩) (.inr (Nat.le_refl _)) _).setCell (p := ⟨w.heap.size, 1, none⟩) (.inr (Nat.le_refl _)) _).setCell (p := ⟨w.heap.size, 2, none⟩) (.inr (Nat.le_refl _)) _).setCell (p := ⟨w.heap.size, 3, none⟩) (.inr (Nat.le_refl _)) _).setCell (p := ⟨w.heap.size, 4, none⟩) (.inr (Nat.le_refl _)) _).setCell (p := ⟨w.heap.size, 5, none⟩) (.inr (Nat.le_refl _)) _).setCell (p := ⟨w.heap.size, 6, none⟩) (.inr (Nat.le_refl _)) _).old (fun k hk h => h.resolve_right (by omega))
    · go_wp2_with fail
      refine (pick_any c w3.heap.size 3 (fun _ => True) _ (by omega) (by omega) HC3.out.ne (HC3.out.alloc _) (lst3 _ _ _ _ _)).mono ?_
      rintro r w4 ⟨y, rfl, _, hC4, hT4⟩
      have HC4 : Hid (Cur w4 c) := hC4
      have HX4 : Hid (Bx w4 w.heap.size ⟨0, 0, 0, 0, 0, 0, 0⟩) := (HX3.out.turns ((Turns.refl (fun k => k = c) w3).alloc _) (by omega)).turns hT4 (by omega)
      have HE4 : Hid (Bx w4 w1.heap.size e) := (HE3.out.turns ((Turns.refl (fun k => k = c) w3).alloc _) (by omega)).turns hT4 (by omega)
      have HT4 : Hid (Turns (fun k => k = c) w w4) := (HT3.out.alloc _).trans hT4
      clear hC4 hT4 HC3 HX3 HT3 HE3
      obtain ⟨⟨f0, f1, f2, f3, f4, f5, f6⟩, hfz, hlt⟩ := HX4.out
      obtain ⟨⟨g0, g1, g2, g3, g4, g5, g6⟩, hgz, hgt⟩ := HE4.out
      simp only [Nat.zero_add] at f1 f2 f3 f4 f5 f6 g1 g2 g3 g4 g5 g6
      go_wp2
      refine bodyPost_ret (v := .agg #[.int .i64 e.t, .int .i64 e.s, .int .i64 y, .int .i64 e.d, .int .i64 e.k, .int .i64 e.v, .int .i64 e.g]) (by simp [results, Tryz.results84, go_sem, f0, f1, f2, f3, f4, f5, f6]) rfl ⟨⟨e.t, e.s, y, e.d, e.k, e.v, e.g⟩, rfl, ?_, ?_⟩
      · exact (((((((HC4.out.set hcw1 _).set hcw _).set hcw _).set hcw _).set hcw _).set hcw _).set hcw _).set hcw _
      · exact (((((((((HT4.out.mono (S' := fun k => k = c ∨ w.heap.size ≤ k) (fun k hk => .inl hk)).setCell (p := ⟨w1.heap.size, 2, none⟩) (.inr (Nat.le_of_lt hs1)) _).setCell (p := ⟨w.heap.size, 0, none⟩) (.inr (Nat.le_refl _)) _).setCell (p := ⟨w.heap.size, 1, none⟩) (.inr (Nat.le_refl _)) _).setCell (p := ⟨w.heap.size, 2, none⟩) (.inr (Nat.le_refl _)) _).setCell (p := ⟨w.heap.size, 3, none⟩) (.inr (Nat.le_refl _)) _).setCell (p := ⟨w.heap.size, 4, none⟩) (.inr (Nat.le_refl _)) _).setCell (p := ⟨w.heap.size, 5, none⟩) (.inr (Nat.le_refl _)) _).setCell (p := ⟨w.heap.size, 6, none⟩) (.inr (Nat.le_refl _)) _).old (fun k hk h => h.resolve_right (by omega))
    · go_wp2_with fail
      refine (pick_any c w3.heap.size 3 (fun _ => True) _ (by omega) (by omega) HC3.out.ne (HC3.out.alloc _) (lst3 _ _ _ _ _)).mono ?_
      rintro r w4 ⟨y, rfl, _, hC4, hT4⟩
      have HC4 : Hid (Cur w4 c) := hC4
      have HX4 : Hid (Bx w4 w.heap.size ⟨0, 0, 0, 0, 0, 0, 0⟩) := (HX3.out.turns ((Turns.refl (fun k => k = c) w3).alloc _) (by omega)).turns hT4 (by omega)
      have HE4 : Hid (Bx w4 w1.heap.size e) := (HE3.out.turns ((Turns.refl (fun k => k = c) w3).alloc _) (by omega)).turns hT4 (by omega)
      have HT4 : Hid (Turns (fun k => k = c) w w4) := (HT3.out.alloc _).trans hT4
      clear hC4 hT4 HC3 HX3 HT3 HE3
      obtain ⟨⟨f0, f1, f2, f3, f4, f5, f6⟩, hfz, hlt⟩ := HX4.out
      obtain ⟨⟨g0, g1, g2, g3, g4, g5, g6⟩, hgz, hgt⟩ := HE4.out
      simp only [Nat.zero_add] at f1 f2 f3 f4 f5 f6 g1 g2 g3 g4 g5 g6
      go_wp2
      refine bodyPost_ret (v := .agg #[.int .i64 e.t, .int .i64 e.s, .int .i64 e.q, .int .i64 y, .int .i64 e.k, .int .i64 e.v, .int .i64 e.g]) (by simp [results, Tryz.results84, go_sem, f0, f1, f2, f3, f4, f5, f6]) rfl ⟨⟨e.t, e.s, e.q, y, e.k, e.v, e.g⟩, rfl, ?_, ?_⟩
      · exact (((((((HC4.out.set hcw1 _).set hcw _).set hcw _).set hcw _).set hcw _).set hcw _).set hcw _).set hcw _
      · exact (((((((((HT4.out.mono (S' := fun k => k = c ∨ w.heap.size ≤ k) (fun k hk => .inl hk)).setCell (p := ⟨w1.heap.size, 3, none⟩) (.inr (Nat.le_of_lt hs1)) _).setCell (p := ⟨w.heap.size, 0, none⟩) (.inr (Nat.le_refl _)) _).setCell (p := ⟨w.heap.size, 1, none⟩) (.inr (Nat.le_refl _)) _).setCell (p := ⟨w.heap.size, 2, none⟩) (.inr (Nat.le_refl _)) _).setCell (p := ⟨w.heap.size, 3, none⟩) (.inr (Nat.le_refl _)) _).setCell (p := ⟨w.heap.size, 4, none⟩) (.inr (Nat.le_refl _)) _).setCell (p := ⟨w.heap.size, 5, none⟩) (.inr (Nat.le_refl _)) _).setCell (p := ⟨w.heap.size, 6, none⟩) (.inr (Nat.le_refl _)) _).old (fun k hk h => h.resolve_right (by omega))
    · go_wp2_with fail
      refine (pick_any c w3.heap.size 3 (fun _ => True) _ (by omega) (by omega) HC3.out.ne (HC3.out.alloc _) (lst3 _ _ _ _ _)).mono ?_
      rintro r w4 ⟨y, rfl, _, hC4, hT4⟩
      have HC4 : Hid (Cur w4 c) := hC4
      have HX4 : Hid (Bx w4 w.heap.size ⟨0, 0, 0, 0, 0, 0, 0⟩) := (HX3.out.turns ((Turns.refl (fun k => k = c) w3).alloc _) (by omega)).turns hT4 (by omega)
      have HE4 : Hid (Bx w4 w1.heap.size e) := (HE3.out.turns ((Turns.refl (fun k => k = c) w3).alloc _) (by omega)).turns hT4 (by omega)
      have HT4 : Hid (Turns (fun k => k = c) w w4) := (HT3.out.alloc _).trans hT4
      clear hC4 hT4 HC3 HX3 HT3 HE3
      obtain ⟨⟨f0, f1, f2, f3, f4, f5, f6⟩, hfz, hlt⟩ := HX4.out
      obtain ⟨⟨g0, g1, g2, g3, g4, g5, g6⟩, hgz, hgt⟩ := HE4.out
      simp only [Nat.zero_add] at f1 f2 f3 f4 f5 f6 g1 g2 g3 g4 g5 g6
      go_wp2
      refine bodyPost_ret (v := .agg #[.int .i64 e.t, .int .i64 e.s, .int .i64 e.q, .int .i64 e.d, .int .i64 y, .int .i64 e.v, .int .i64 e.g]) (by simp [results, Tryz.results84, go_sem, f0, f1, f2, f3, f4, f5, f6]) rfl ⟨⟨e.t, e.s, e.q, e.d, y, e.v, e.g⟩, rfl, ?_, ?_⟩
      · exact (((((((HC4.out.set hcw1 _).set hcw _).set hcw _).set hcw _).set hcw _).set hcw _).set hcw _).set hcw _
      · exact (((((((((HT4.out.mono (S' := fun k => k = c ∨ w.heap.size ≤ k) (fun k hk => .inl hk)).setCell (p := ⟨w1.heap.size, 4, none⟩) (.inr (Nat.le_of_lt hs1)) _).setCell (p := ⟨w.heap.size, 0, none⟩) (.inr (Nat.le_refl _)) _).setCell (p := ⟨w.heap.size, 1, none⟩) (.inr (Nat.le_refl _)) _).setCell (p := ⟨w.heap.size, 2, none⟩) (.inr (Nat.le_refl _)) _).setCell (p := ⟨w.heap.size, 3, none⟩) (.inr (Nat.le_refl _)) _).setCell (p := ⟨w.heap.size, 4, none⟩) (.inr (Nat.le_refl _)) _).setCell (p := ⟨w.heap.size, 5, none⟩) (.inr (Nat.le_refl _)) _).setCell (p := ⟨w.heap.size, 6, none⟩) (.inr (Nat.le_refl _)) _).old (fun k hk h => h.resolve_right (by omega))
    · go_wp2_with fail
      refine (pick_any c w3.heap.size 3 (fun _ => True) _ (by omega) (by omega) HC3.out.ne (HC3.out.alloc _) (lst3 _ _ _ _ _)).mono ?_
      rintro r w4 ⟨y, rfl, _, hC4, hT4⟩
      have HC4 : Hid (Cur w4 c) := hC4
      have HX4 : Hid (Bx w4 w.heap.size ⟨0, 0, 0, 0, 0, 0, 0⟩) := (HX3.out.turns ((Turns.refl (fun k => k = c) w3).alloc _) (by omega)).turns hT4 (by omega)
      have HE4 : Hid (Bx w4 w1.heap.size e) := (HE3.out.turns ((Turns.refl (fun k => k = c) w3).alloc _) (by omega)).turns hT4 (by omega)
      have HT4 : Hid (Turns (fun k => k = c) w w4) := (HT3.out.alloc _).trans hT4
      clear hC4 hT4 HC3 HX3 HT3 HE3
      obtain ⟨⟨f0, f1, f2, f3, f4, f5, f6⟩, hfz, hlt⟩ := HX4.out
      obtain ⟨⟨g0, g1, g2, g3, g4, g5, g6⟩, hgz, hgt⟩ := HE4.out
      simp only [Nat.zero_add] at f1 f2 f3 f4 f5 f6 g1 g2 g3 g4 g5 g6
      go_wp2
      refine bodyPost_ret (v := .agg #[.int .i64 e.t, .int .i64 e.s, .int .i64 e.q, .int .i64 e.d, .int .i64 e.k, .int .i64 y, .int .i64 e.g]) (by simp [results, Tryz.results84, go_sem, f0, f1, f2, f3, f4, f5, f6]) rfl ⟨⟨e.t, e.s, e.q, e.d, e.k, y, e.g⟩, rfl, ?_, ?_⟩
      · exact (((((((HC4.out.set hcw1 _).set hcw _).set hcw _).set hcw _).set hcw _).set hcw _).set hcw _).set hcw _
      · exact (((((((((HT4.out.mono (S' := fun k => k = c ∨ w.heap.size ≤ k) (fun k hk => .inl hk)).setCell (p := ⟨w1.heap.size, 5, none⟩) (.inr (Nat.le_of_lt hs1)) _).setCell (p := ⟨w.heap.size, 0, none⟩) (.inr (Nat.le_refl _)) _).setCell (p := ⟨w.heap.size, 1, none⟩) (.inr (Nat.le_refl _)) _).setCell (p := ⟨w.heap.size, 2, none⟩) (.inr (Nat.le_refl _)) _).setCell (p := ⟨w.heap.size, 3, none⟩) (.inr (Nat.le_refl _)) _).setCell (p := ⟨w.heap.size, 4, none⟩) (.inr (Nat.le_refl _)) _).setCell (p := ⟨w.heap.size, 5, none⟩) (.inr (Nat.le_refl _)) _).setCell (p := ⟨w.heap.size, 6, none⟩) (.inr (Nat.le_refl _)) _).old (fun k hk h => h.resolve_right (by omega))
    · go_wp2_with fail
      refine (pick_any c w3.heap.size 3 (fun _ => True) _ (by omega) (by omega) HC3.out.ne (HC3.out.alloc _) (lst3 _ _ _ _ _)).mono ?_
      rintro r w4 ⟨y, rfl, _, hC4, hT4⟩
      have HC4 : Hid (Cur w4 c) := hC4
      have HX4 : Hid (Bx w4 w.heap.size ⟨0, 0, 0, 0, 0, 0, 0⟩) := (HX3.out.turns ((Turns.refl (fun k => k = c) w3).alloc _) (by omega)).turns hT4 (by omega)
      have HE4 : Hid (Bx w4 w1.heap.size e) := (HE3.out.turns ((Turns.refl (fun k => k = c) w3).alloc _) (by omega)).turns hT4 (by omega)
      have HT4 : Hid (Turns (fun k => k = c) w w4) := (HT3.out.alloc _).trans hT4
      clear hC4 hT4 HC3 HX3 HT3 HE3
      obtain ⟨⟨f0, f1, f2, f3, f4, f5, f6⟩, hfz, hlt⟩ := HX4.out
      obtain ⟨⟨g0, g1, g2, g3, g4, g5, g6⟩, hgz, hgt⟩ := HE4.out
      simp only [Nat.zero_add] at f1 f2 f3 f4 f5 f6 g1 g2 g3 g4 g5 g6
      go_wp2
      refine bodyPost_ret (v := .agg #[.int .i64 e.t, .int .i64 e.s, .int .i64 e.q, .int .i64 e.d, .int .i64 e.k, .int .i64 e.v, .int .i64 y]) (by simp [results, Tryz.results84, go_sem, f0, f1, f2, f3, f4, f5, f6]) rfl ⟨⟨e.t, e.s, e.q, e.d, e.k, e.v, y⟩, rfl, ?_, ?_⟩
      · exact (((((((HC4.out.set hcw1 _).set hcw _).set hcw _).set hcw _).set hcw _).set hcw _).set hcw _).set hcw _
      · exact (((((((((HT4.out.mono (S' := fun k => k = c ∨ w.heap.size ≤ k) (fun k hk => .inl hk)).setCell (p := ⟨w1.heap.size, 6, none⟩) (.inr (Nat.le_of_lt hs1)) _).setCell (p := ⟨w.heap.size, 0, none⟩) (.inr (Nat.le_refl _)) _).setCell (p := ⟨w.heap.size, 1, none⟩) (.inr (Nat.le_refl _)) _).setCell (p := ⟨w.heap.size, 2, none⟩) (.inr (Nat.le_refl _)) _).setCell (p := ⟨w.heap.size, 3, none⟩) (.inr (Nat.le_refl _)) _).setCell (p := ⟨w.heap.size, 4, none⟩) (.inr (Nat.le_refl _)) _).setCell (p := ⟨w.heap.size, 5, none⟩) (.inr (Nat.le_refl _)) _).setCell (p := ⟨w.heap.size, 6, none⟩) (.inr (Nat.le_refl _)) _).old (fun k hk h => h.resolve_right (by omega))
end Go.Proofs.YtmpoffepoafblaaGreat
