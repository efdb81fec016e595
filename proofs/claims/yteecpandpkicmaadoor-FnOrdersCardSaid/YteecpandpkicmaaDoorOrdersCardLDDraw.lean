/- DrawEventCmp: whatever two events come out. -/
import Derived.Test.YteecpandpkicmaaDoorOrdersCardLQDraw
import Derived.Deep.RegionWith
import Derived.BigRegion
namespace Go.Proofs.YteecpandpkicmaaDoor
open Go.RowKit

theorem Cur.drew {w : World} {c : Nat} (H : Cur w c) : Cur w.drew c := H.below (B := w.heap.size) (Below.refl _ w).drew H.lt
theorem Bx.drew {w : World} {b : Nat} {e : Ev} (H : Bx w b e) : Bx w.drew b e := H.turns (Turns.refl (fun _ => False) w).drew id
theorem Bx.alloc {w : World} {b : Nat} {e : Ev} (H : Bx w b e) (o : Obj) : Bx (w.alloc o) b e := H.turns ((Turns.refl (fun _ => False) w).alloc o) id
theorem Bx.tag {w : World} {b : Nat} {e : Ev} (H : Bx w b e) (x : Int) : Bx (w.setCell ⟨b, 6, none⟩ (.int .i64 x)) b ⟨e.t, e.s, e.q, e.d, e.k, e.v, x⟩ := by
  have hn : ∀ i j : Nat, i ≠ j → (⟨b, i, none⟩ : Addr) ≠ ⟨b, j, none⟩ := fun i j hij e => hij (by injection e)
  obtain ⟨⟨f0, f1, f2, f3, f4, f5, f6⟩, hz, hl⟩ := H
  simp only [Nat.zero_add] at f1 f2 f3 f4 f5 f6
  refine ⟨⟨?_, ?_, ?_, ?_, ?_, ?_, ?_⟩, fun o => by simp [hz], by simpa [World.setCell] using hl⟩
  · exact (World.cell?_setCell_other _ _ _ _ (hn _ _ (by omega))).trans f0
  · exact (World.cell?_setCell_other _ _ _ _ (hn _ _ (by omega))).trans f1
  · exact (World.cell?_setCell_other _ _ _ _ (hn _ _ (by omega))).trans f2
  · exact (World.cell?_setCell_other _ _ _ _ (hn _ _ (by omega))).trans f3
  · exact (World.cell?_setCell_other _ _ _ _ (hn _ _ (by omega))).trans f4
  · exact (World.cell?_setCell_other _ _ _ _ (hn _ _ (by omega))).trans f5
  · exact World.cell?_setCell_same _ _ _ f6
theorem Bx.other {w : World} {b : Nat} {e : Ev} (H : Bx w b e) {p : Addr} (hp : b ≠ p.block) (x : Value) : Bx (w.setCell p x) b e := H.turns ((Turns.refl (fun k => k = p.block) w).setCell rfl x) hp

theorem Bx.put {w : World} {b : Nat} {e0 : Ev} (H : Bx w b e0) (e : Ev) : Bx (((((((w.setCell ⟨b, 0, none⟩ (.int .i64 e.t)).setCell ⟨b, 1, none⟩ (.int .i64 e.s)).setCell ⟨b, 2, none⟩ (.int .i64 e.q)).setCell ⟨b, 3, none⟩ (.int .i64 e.d)).setCell ⟨b, 4, none⟩ (.int .i64 e.k)).setCell ⟨b, 5, none⟩ (.int .i64 e.v)).setCell ⟨b, 6, none⟩ (.int .i64 e.g)) b e := by
  have hn : ∀ i j : Nat, i ≠ j → (⟨b, i, none⟩ : Addr) ≠ ⟨b, j, none⟩ := fun i j hij e => hij (by injection e)
  obtain ⟨⟨f0, f1, f2, f3, f4, f5, f6⟩, hz, hl⟩ := H
  simp only [Nat.zero_add] at f1 f2 f3 f4 f5 f6
  refine ⟨⟨?_, ?_, ?_, ?_, ?_, ?_, ?_⟩, fun o => by simp [hz], by simpa [World.setCell] using hl⟩
  · rw [World.cell?_setCell_other _ _ _ _ (hn _ _ (by omega)), World.cell?_setCell_other _ _ _ _ (hn _ _ (by omega)), World.cell?_setCell_other _ _ _ _ (hn _ _ (by omega)), World.cell?_setCell_other _ _ _ _ (hn _ _ (by omega)), World.cell?_setCell_other _ _ _ _ (hn _ _ (by omega)), World.cell?_setCell_other _ _ _ _ (hn _ _ (by omega))]
    refine World.cell?_setCell_same _ _ _ (u := .int .i64 e0.t) ?_
    exact f0
  · simp only [Nat.zero_add]
    rw [World.cell?_setCell_other _ _ _ _ (hn _ _ (by omega)), World.cell?_setCell_other _ _ _ _ (hn _ _ (by omega)), World.cell?_setCell_other _ _ _ _ (hn _ _ (by omega)), World.cell?_setCell_other _ _ _ _ (hn _ _ (by omega)), World.cell?_setCell_other _ _ _ _ (hn _ _ (by omega))]
    refine World.cell?_setCell_same _ _ _ (u := .int .i64 e0.s) ?_
    rw [World.cell?_setCell_other _ _ _ _ (hn _ _ (by omega))]
    exact f1
  · simp only [Nat.zero_add]
    rw [World.cell?_setCell_other _ _ _ _ (hn _ _ (by omega)), World.cell?_setCell_other _ _ _ _ (hn _ _ (by omega)), World.cell?_setCell_other _ _ _ _ (hn _ _ (by omega)), World.cell?_setCell_other _ _ _ _ (hn _ _ (by omega))]
    refine World.cell?_setCell_same _ _ _ (u := .int .i64 e0.q) ?_
    rw [World.cell?_setCell_other _ _ _ _ (hn _ _ (by omega)), World.cell?_setCell_other _ _ _ _ (hn _ _ (by omega))]
    exact f2
  · simp only [Nat.zero_add]
    rw [World.cell?_setCell_other _ _ _ _ (hn _ _ (by omega)), World.cell?_setCell_other _ _ _ _ (hn _ _ (by omega)), World.cell?_setCell_other _ _ _ _ (hn _ _ (by omega))]
    refine World.cell?_setCell_same _ _ _ (u := .int .i64 e0.d) ?_
    rw [World.cell?_setCell_other _ _ _ _ (hn _ _ (by omega)), World.cell?_setCell_other _ _ _ _ (hn _ _ (by omega)), World.cell?_setCell_other _ _ _ _ (hn _ _ (by omega))]
    exact f3
  · simp only [Nat.zero_add]
    rw [World.cell?_setCell_other _ _ _ _ (hn _ _ (by omega)), World.cell?_setCell_other _ _ _ _ (hn _ _ (by omega))]
    refine World.cell?_setCell_same _ _ _ (u := .int .i64 e0.k) ?_
    rw [World.cell?_setCell_other _ _ _ _ (hn _ _ (by omega)), World.cell?_setCell_other _ _ _ _ (hn _ _ (by omega)), World.cell?_setCell_other _ _ _ _ (hn _ _ (by omega)), World.cell?_setCell_other _ _ _ _ (hn _ _ (by omega))]
    exact f4
  · simp only [Nat.zero_add]
    rw [World.cell?_setCell_other _ _ _ _ (hn _ _ (by omega))]
    refine World.cell?_setCell_same _ _ _ (u := .int .i64 e0.v) ?_
    rw [World.cell?_setCell_other _ _ _ _ (hn _ _ (by omega)), World.cell?_setCell_other _ _ _ _ (hn _ _ (by omega)), World.cell?_setCell_other _ _ _ _ (hn _ _ (by omega)), World.cell?_setCell_other _ _ _ _ (hn _ _ (by omega)), World.cell?_setCell_other _ _ _ _ (hn _ _ (by omega))]
    exact f5
  · simp only [Nat.zero_add]
    refine World.cell?_setCell_same _ _ _ (u := .int .i64 e0.g) ?_
    rw [World.cell?_setCell_other _ _ _ _ (hn _ _ (by omega)), World.cell?_setCell_other _ _ _ _ (hn _ _ (by omega)), World.cell?_setCell_other _ _ _ _ (hn _ _ (by omega)), World.cell?_setCell_other _ _ _ _ (hn _ _ (by omega)), World.cell?_setCell_other _ _ _ _ (hn _ _ (by omega)), World.cell?_setCell_other _ _ _ _ (hn _ _ (by omega))]
    exact f6
theorem Turns.putE (w : World) (b : Nat) (e : Ev) : Turns (fun k => k = b) w (((((((w.setCell ⟨b, 0, none⟩ (.int .i64 e.t)).setCell ⟨b, 1, none⟩ (.int .i64 e.s)).setCell ⟨b, 2, none⟩ (.int .i64 e.q)).setCell ⟨b, 3, none⟩ (.int .i64 e.d)).setCell ⟨b, 4, none⟩ (.int .i64 e.k)).setCell ⟨b, 5, none⟩ (.int .i64 e.v)).setCell ⟨b, 6, none⟩ (.int .i64 e.g)) := ((((((((Turns.refl (fun k => k = b) w).setCell (p := ⟨b, 0, none⟩) rfl _).setCell (p := ⟨b, 1, none⟩) rfl _).setCell (p := ⟨b, 2, none⟩) rfl _).setCell (p := ⟨b, 3, none⟩) rfl _).setCell (p := ⟨b, 4, none⟩) rfl _).setCell (p := ⟨b, 5, none⟩) rfl _).setCell (p := ⟨b, 6, none⟩) rfl _)
theorem Below.put {B b : Nat} {a w : World} (H : Below B a w) (hb : B ≤ b) (e : Ev) : Below B a (((((((w.setCell ⟨b, 0, none⟩ (.int .i64 e.t)).setCell ⟨b, 1, none⟩ (.int .i64 e.s)).setCell ⟨b, 2, none⟩ (.int .i64 e.q)).setCell ⟨b, 3, none⟩ (.int .i64 e.d)).setCell ⟨b, 4, none⟩ (.int .i64 e.k)).setCell ⟨b, 5, none⟩ (.int .i64 e.v)).setCell ⟨b, 6, none⟩ (.int .i64 e.g)) := (((((((H.setCell (p := ⟨b, 0, none⟩) hb _).setCell (p := ⟨b, 1, none⟩) hb _).setCell (p := ⟨b, 2, none⟩) hb _).setCell (p := ⟨b, 3, none⟩) hb _).setCell (p := ⟨b, 4, none⟩) hb _).setCell (p := ⟨b, 5, none⟩) hb _).setCell (p := ⟨b, 6, none⟩) hb _)

set_option maxRecDepth 100000 in
set_option maxHeartbeats 8000000 in
theorem drawCmp_any (a : Option Addr) (n cap : Nat) (w : World) (hn : n ≤ 281474976710656) (hC : CodeIn w w.heap.size a n) :
    Calls Tryd.prog 4 #[.slice a n cap] w fun r w' => ∃ x y : Ev, r = .returned (.tuple #[x.val, y.val]) ∧ Below w.heap.size w w' := by
  have HC : Hid (CodeIn w w.heap.size a n) := hC
  clear hC
  have HB0 : Hid (Below w.heap.size w ((w.alloc (.cells #[.int .i64 0, .int .i64 0, .int .i64 0, .int .i64 0, .int .i64 0, .int .i64 0, .int .i64 0] 24)).alloc (.cells #[.int .i64 0, .int .i64 0, .int .i64 0, .int .i64 0, .int .i64 0, .int .i64 0, .int .i64 0] 24))) := ((Below.refl _ w).alloc (Nat.le_refl _) _).alloc (by simp) _
  have HX0 : Hid (Bx ((w.alloc (.cells #[.int .i64 0, .int .i64 0, .int .i64 0, .int .i64 0, .int .i64 0, .int .i64 0, .int .i64 0] 24)).alloc (.cells #[.int .i64 0, .int .i64 0, .int .i64 0, .int .i64 0, .int .i64 0, .int .i64 0, .int .i64 0] 24)) w.heap.size ⟨0, 0, 0, 0, 0, 0, 0⟩) := (Bx.new w 24 ⟨0, 0, 0, 0, 0, 0, 0⟩).alloc _
  have HY0 : Hid (Bx ((w.alloc (.cells #[.int .i64 0, .int .i64 0, .int .i64 0, .int .i64 0, .int .i64 0, .int .i64 0, .int .i64 0] 24)).alloc (.cells #[.int .i64 0, .int .i64 0, .int .i64 0, .int .i64 0, .int .i64 0, .int .i64 0, .int .i64 0] 24)) (w.heap.size + 1) ⟨0, 0, 0, 0, 0, 0, 0⟩) := by
    have h := Bx.new (w.alloc (.cells #[.int .i64 0, .int .i64 0, .int .i64 0, .int .i64 0, .int .i64 0, .int .i64 0, .int .i64 0] 24)) 24 ⟨0, 0, 0, 0, 0, 0, 0⟩
    rw [World.size_alloc] at h
    exact h
  go_enter Tryd.func4, Tryd.ntmps4
  go_wp2_with fail
  refine (new_any a n cap _ hn ((HC.out.below HB0.out (Nat.le_refl _)).mono HB0.out.size)).mono ?_
  rintro r w1 ⟨c, rfl, hc, hC1, hB1⟩
  have hcw : w.heap.size + 1 < c := by simp at hc; omega
  have HC1 : Hid (Cur w1 c) := hC1
  have HB1 : Hid (Below w.heap.size w w1) := HB0.out.trans (hB1.mono HB0.out.size)
  have HX1 : Hid (Bx w1 w.heap.size ⟨0, 0, 0, 0, 0, 0, 0⟩) := HX0.out.turns (S := fun _ => False) (Turns.of_below hB1) id
  have HY1 : Hid (Bx w1 (w.heap.size + 1) ⟨0, 0, 0, 0, 0, 0, 0⟩) := HY0.out.turns (S := fun _ => False) (Turns.of_below hB1) id
  clear hC1 hB1 HX0 HY0 HB0
  go_wp2_with fail
  refine (bent_any c _ HC1.out).mono ?_
  rintro r w2 ⟨x, rfl, hC2, hT2⟩
  have HC2 : Hid (Cur w2 c) := hC2
  have HB2 : Hid (Below w.heap.size w w2) := HB1.out.trans (hT2.to_below (fun k hk => by omega) HB1.out.size)
  have HX2 : Hid (Bx w2 w.heap.size ⟨0, 0, 0, 0, 0, 0, 0⟩) := HX1.out.turns hT2 (by omega)
  have HY2 : Hid (Bx w2 (w.heap.size + 1) ⟨0, 0, 0, 0, 0, 0, 0⟩) := HY1.out.turns hT2 (by omega)
  have hc2 : c < w2.heap.size := HC2.out.lt
  clear hC2 hT2 HX1 HY1 HB1 HC1
  go_wp2_with fail
  refine (once_any c _ _ (HC2.out.alloc _)).mono ?_
  rintro r w3 ⟨bb, rfl, hC3, hT3⟩
  have HC3 : Hid (Cur w3 c) := hC3
  have HB3 : Hid (Below w.heap.size w w3) := (HB2.out.alloc HB2.out.size _).trans (hT3.to_below (fun k hk => by omega) (by have := HB2.out.size; simp; omega))
  have HX3 : Hid (Bx w3 w.heap.size ⟨0, 0, 0, 0, 0, 0, 0⟩) := (HX2.out.alloc _).turns hT3 (by omega)
  have HY3 : Hid (Bx w3 (w.heap.size + 1) ⟨0, 0, 0, 0, 0, 0, 0⟩) := (HY2.out.alloc _).turns hT3 (by omega)
  have HA3 : Hid (Bx w3 w2.heap.size x) := (Bx.new w2 24 x).turns hT3 (by omega)
  have hz3 : w2.heap.size < w3.heap.size := HA3.out.lt
  clear hC3 hT3 HX2 HY2 HB2 HC2
  have e1 : ¬ w.heap.size = w2.heap.size := by omega
  have e2 : ¬ w.heap.size + 1 = w2.heap.size := by omega
  have e3 : ¬ w2.heap.size = w.heap.size := by omega
  have e4 : ¬ w2.heap.size = w.heap.size + 1 := by omega
  cases bb with
  | true =>
    obtain ⟨⟨g0, g1, g2, g3, g4, g5, g6⟩, hgz, _⟩ := HA3.out
    simp only [Nat.zero_add] at g1 g2 g3 g4 g5 g6
    go_wp2_with fail
    refine (below_any c _ _ (HC3.out.alloc _)).mono ?_
    rintro r w4 ⟨y, rfl, _, _, hC4, hT4⟩
    have HB4 : Hid (Below w.heap.size w w4) := (HB3.out.alloc HB3.out.size _).trans (hT4.to_below (fun k hk => by omega) (by have := HB3.out.size; simp; omega))
    have HX4 : Hid (Bx w4 w.heap.size ⟨0, 0, 0, 0, 0, 0, 0⟩) := (HX3.out.alloc _).turns hT4 (by omega)
    have HY4 : Hid (Bx w4 (w.heap.size + 1) ⟨0, 0, 0, 0, 0, 0, 0⟩) := (HY3.out.alloc _).turns hT4 (by omega)
    have HA4 : Hid (Bx w4 w2.heap.size x) := (HA3.out.alloc _).turns hT4 (by omega)
    have HD4 : Hid (Bx w4 w3.heap.size x) := (Bx.new w3 24 x).turns hT4 (by omega)
    clear hC4 hT4 HX3 HY3 HA3 HB3 HC3 g0 g1 g2 g3 g4 g5 g6 hgz
    have e5 : ¬ w3.heap.size = w.heap.size := by omega
    have e6 : ¬ w3.heap.size = w.heap.size + 1 := by omega
    have e7 : ¬ w.heap.size = w3.heap.size := by omega
    have e8 : ¬ w.heap.size + 1 = w3.heap.size := by omega
    have e9 : ¬ w3.heap.size = w2.heap.size := by omega
    have e10 : ¬ w2.heap.size = w3.heap.size := by omega
    obtain ⟨W5, hW5⟩ : ∃ W5, w4.setCell ⟨w3.heap.size, 6, none⟩ (.int .i64 y) = W5 := ⟨_, rfl⟩
    have HB5 : Hid (Below w.heap.size w W5) := by rw [← hW5]; exact HB4.out.setCell (by simp; omega) _
    have HX5 : Hid (Bx W5 w.heap.size ⟨0, 0, 0, 0, 0, 0, 0⟩) := by rw [← hW5]; exact HX4.out.other e7 _
    have HY5 : Hid (Bx W5 (w.heap.size + 1) ⟨0, 0, 0, 0, 0, 0, 0⟩) := by rw [← hW5]; exact HY4.out.other e8 _
    have HA5 : Hid (Bx W5 w2.heap.size x) := by rw [← hW5]; exact HA4.out.other e10 _
    have HD5 : Hid (Bx W5 w3.heap.size ⟨x.t, x.s, x.q, x.d, x.k, x.v, y⟩) := by rw [← hW5]; exact HD4.out.tag y
    have h6 := HD4.out.ev.f6
    have hz6 := HD4.out.fz
    simp only [Nat.zero_add] at h6
    go_wp2_with fail
    clear h6 hz6 hW5 HB4 HX4 HY4 HA4 HD4
    obtain ⟨⟨f0, f1, f2, f3, f4, f5, f6⟩, hfz, _⟩ := HX5.out
    obtain ⟨⟨p0, p1, p2, p3, p4, p5, p6⟩, hpz, _⟩ := HY5.out
    obtain ⟨⟨g0, g1, g2, g3, g4, g5, g6⟩, hgz, _⟩ := HA5.out
    obtain ⟨⟨q0, q1, q2, q3, q4, q5, q6⟩, hqz, _⟩ := HD5.out
    simp only [Nat.zero_add] at f1 f2 f3 f4 f5 f6 p1 p2 p3 p4 p5 p6 g1 g2 g3 g4 g5 g6 q1 q2 q3 q4 q5 q6
    go_big_region
    have hW : ∀ W : World, W = ((((((((((((((W5.setCell ⟨w.heap.size, 0, none⟩ (.int .i64 x.t)).setCell ⟨w.heap.size, 1, none⟩ (.int .i64 x.s)).setCell ⟨w.heap.size, 2, none⟩ (.int .i64 x.q)).setCell ⟨w.heap.size, 3, none⟩ (.int .i64 x.d)).setCell ⟨w.heap.size, 4, none⟩ (.int .i64 x.k)).setCell ⟨w.heap.size, 5, none⟩ (.int .i64 x.v)).setCell ⟨w.heap.size, 6, none⟩ (.int .i64 x.g)).setCell ⟨w.heap.size + 1, 0, none⟩ (.int .i64 x.t)).setCell ⟨w.heap.size + 1, 1, none⟩ (.int .i64 x.s)).setCell ⟨w.heap.size + 1, 2, none⟩ (.int .i64 x.q)).setCell ⟨w.heap.size + 1, 3, none⟩ (.int .i64 x.d)).setCell ⟨w.heap.size + 1, 4, none⟩ (.int .i64 x.k)).setCell ⟨w.heap.size + 1, 5, none⟩ (.int .i64 x.v)).setCell ⟨w.heap.size + 1, 6, none⟩ (.int .i64 y)) → Bx W w.heap.size x ∧ Bx W (w.heap.size + 1) ⟨x.t, x.s, x.q, x.d, x.k, x.v, y⟩ ∧ Below w.heap.size w W := fun W h => by
      rw [h]
      exact ⟨(HX5.out.put x).turns (Turns.putE _ (w.heap.size + 1) ⟨x.t, x.s, x.q, x.d, x.k, x.v, y⟩) (by omega), (HY5.out.turns (Turns.putE _ w.heap.size x) (by omega)).put ⟨x.t, x.s, x.q, x.d, x.k, x.v, y⟩, Below.put (Below.put HB5.out (Nat.le_refl _) x) (by omega) ⟨x.t, x.s, x.q, x.d, x.k, x.v, y⟩⟩
    clear f0 f1 f2 f3 f4 f5 f6 p0 p1 p2 p3 p4 p5 p6 g0 g1 g2 g3 g4 g5 g6 q0 q1 q2 q3 q4 q5 q6 hfz hpz hgz hqz
    generalize hG : ((((((((((((((W5.setCell ⟨w.heap.size, 0, none⟩ (.int .i64 x.t)).setCell ⟨w.heap.size, 1, none⟩ (.int .i64 x.s)).setCell ⟨w.heap.size, 2, none⟩ (.int .i64 x.q)).setCell ⟨w.heap.size, 3, none⟩ (.int .i64 x.d)).setCell ⟨w.heap.size, 4, none⟩ (.int .i64 x.k)).setCell ⟨w.heap.size, 5, none⟩ (.int .i64 x.v)).setCell ⟨w.heap.size, 6, none⟩ (.int .i64 x.g)).setCell ⟨w.heap.size + 1, 0, none⟩ (.int .i64 x.t)).setCell ⟨w.heap.size + 1, 1, none⟩ (.int .i64 x.s)).setCell ⟨w.heap.size + 1, 2, none⟩ (.int .i64 x.q)).setCell ⟨w.heap.size + 1, 3, none⟩ (.int .i64 x.d)).setCell ⟨w.heap.size + 1, 4, none⟩ (.int .i64 x.k)).setCell ⟨w.heap.size + 1, 5, none⟩ (.int .i64 x.v)).setCell ⟨w.heap.size + 1, 6, none⟩ (.int .i64 y)) = W6
    obtain ⟨⟨⟨f0, f1, f2, f3, f4, f5, f6⟩, hfz, _⟩, ⟨⟨p0, p1, p2, p3, p4, p5, p6⟩, hpz, _⟩, hB6⟩ := hW W6 hG.symm
    simp only [Nat.zero_add] at f1 f2 f3 f4 f5 f6 p1 p2 p3 p4 p5 p6
    clear hW hG
    go_wp2
    exact bodyPost_ret (v := .tuple #[x.val, (⟨x.t, x.s, x.q, x.d, x.k, x.v, y⟩ : Ev).val]) (by simp [results, Tryd.results4, go_sem, f0, f1, f2, f3, f4, f5, f6, p0, p1, p2, p3, p4, p5, p6]) rfl ⟨⟨x, _, rfl⟩, hB6.drew⟩
  | false =>
    have HCd : Hid (Cur w3.drew c) := HC3.out.drew
    obtain ⟨⟨g0, g1, g2, g3, g4, g5, g6⟩, hgz, _⟩ := HA3.out
    simp only [Nat.zero_add] at g1 g2 g3 g4 g5 g6
    go_wp2_with fail
    go_region_with (go_at_call 12; refine (bent_any c _ HCd.out).mono ?_; rintro r w4 ⟨y, rfl, hC4, hT4⟩; have HB4 : Hid (Below w.heap.size w w4) := (HB3.out.drew).trans (hT4.to_below (fun k hk => by omega) HB3.out.size); have HX4 : Hid (Bx w4 w.heap.size ⟨0, 0, 0, 0, 0, 0, 0⟩) := HX3.out.drew.turns hT4 (by omega); have HY4 : Hid (Bx w4 (w.heap.size + 1) ⟨0, 0, 0, 0, 0, 0, 0⟩) := HY3.out.drew.turns hT4 (by omega); obtain ⟨⟨f0, f1, f2, f3, f4, f5, f6⟩, hfz, _⟩ := HX3.out.drew.turns hT4 (by omega); obtain ⟨⟨p0, p1, p2, p3, p4, p5, p6⟩, hpz, _⟩ := HY3.out.drew.turns hT4 (by omega); obtain ⟨⟨h0, h1, h2, h3, h4, h5, h6⟩, hhz, _⟩ := HA3.out.drew.turns hT4 (by omega); simp only [Nat.zero_add] at f1 f2 f3 f4 f5 f6 p1 p2 p3 p4 p5 p6 h1 h2 h3 h4 h5 h6; clear hC4 hT4)
    all_goals
      have hW : ∀ W : World, W = ((((((((((((((w4.setCell ⟨w.heap.size, 0, none⟩ (.int .i64 x.t)).setCell ⟨w.heap.size, 1, none⟩ (.int .i64 x.s)).setCell ⟨w.heap.size, 2, none⟩ (.int .i64 x.q)).setCell ⟨w.heap.size, 3, none⟩ (.int .i64 x.d)).setCell ⟨w.heap.size, 4, none⟩ (.int .i64 x.k)).setCell ⟨w.heap.size, 5, none⟩ (.int .i64 x.v)).setCell ⟨w.heap.size, 6, none⟩ (.int .i64 x.g)).setCell ⟨w.heap.size + 1, 0, none⟩ (.int .i64 y.t)).setCell ⟨w.heap.size + 1, 1, none⟩ (.int .i64 y.s)).setCell ⟨w.heap.size + 1, 2, none⟩ (.int .i64 y.q)).setCell ⟨w.heap.size + 1, 3, none⟩ (.int .i64 y.d)).setCell ⟨w.heap.size + 1, 4, none⟩ (.int .i64 y.k)).setCell ⟨w.heap.size + 1, 5, none⟩ (.int .i64 y.v)).setCell ⟨w.heap.size + 1, 6, none⟩ (.int .i64 y.g)) → Bx W w.heap.size x ∧ Bx W (w.heap.size + 1) y ∧ Below w.heap.size w W := fun W h => by
        rw [h]
        exact ⟨(HX4.out.put x).turns (Turns.putE _ (w.heap.size + 1) y) (by omega), (HY4.out.turns (Turns.putE _ w.heap.size x) (by omega)).put y, Below.put (Below.put HB4.out (Nat.le_refl _) x) (by omega) y⟩
      clear f0 f1 f2 f3 f4 f5 f6 p0 p1 p2 p3 p4 p5 p6 g0 g1 g2 g3 g4 g5 g6 h0 h1 h2 h3 h4 h5 h6 hfz hpz hgz hhz
      generalize hG : ((((((((((((((w4.setCell ⟨w.heap.size, 0, none⟩ (.int .i64 x.t)).setCell ⟨w.heap.size, 1, none⟩ (.int .i64 x.s)).setCell ⟨w.heap.size, 2, none⟩ (.int .i64 x.q)).setCell ⟨w.heap.size, 3, none⟩ (.int .i64 x.d)).setCell ⟨w.heap.size, 4, none⟩ (.int .i64 x.k)).setCell ⟨w.heap.size, 5, none⟩ (.int .i64 x.v)).setCell ⟨w.heap.size, 6, none⟩ (.int .i64 x.g)).setCell ⟨w.heap.size + 1, 0, none⟩ (.int .i64 y.t)).setCell ⟨w.heap.size + 1, 1, none⟩ (.int .i64 y.s)).setCell ⟨w.heap.size + 1, 2, none⟩ (.int .i64 y.q)).setCell ⟨w.heap.size + 1, 3, none⟩ (.int .i64 y.d)).setCell ⟨w.heap.size + 1, 4, none⟩ (.int .i64 y.k)).setCell ⟨w.heap.size + 1, 5, none⟩ (.int .i64 y.v)).setCell ⟨w.heap.size + 1, 6, none⟩ (.int .i64 y.g)) = W6
      obtain ⟨⟨⟨f0, f1, f2, f3, f4, f5, f6⟩, hfz, _⟩, ⟨⟨p0, p1, p2, p3, p4, p5, p6⟩, hpz, _⟩, hB6⟩ := hW W6 hG.symm
      simp only [Nat.zero_add] at f1 f2 f3 f4 f5 f6 p1 p2 p3 p4 p5 p6
      clear hW hG
      go_wp2
      exact bodyPost_ret (v := .tuple #[x.val, y.val]) (by simp [results, Tryd.results4, go_sem, f0, f1, f2, f3, f4, f5, f6, p0, p1, p2, p3, p4, p5, p6]) rfl ⟨x, y, rfl, hB6⟩
end Go.Proofs.YteecpandpkicmaaDoor
