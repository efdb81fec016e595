/- VTwo, VImp, VSpec -/
import Derived.Test.YtofbholpggkjcaaExactRefinesG02
/- Vectors: the program's vectorsOf, Meets, Refines. -/
namespace Go.Proofs.Ytofbholpggkjcaa
open Go.RowKit
theorem vecOf_form (l : List Int) : ∃ a b c d : Int, vecOf l = vec a b c d := by
  unfold vecOf; split
  · exact ⟨_, _, _, _, rfl⟩
  · exact ⟨0, 0, 0, 0, rfl⟩
theorem vecOf_four (a b c d : Int) (h : vok [a, b, c, d] = true) : vecOf [a, b, c, d] = vec a b c d := by simp [vecOf, h, intAt]
set_option maxHeartbeats 4000000 in
theorem two_any (x y : Value) (l r : List Int) (w : World) (hl : l.length ≤ 4611686018427387904) (hr : r.length ≤ 4611686018427387904) (h : IsI w x l) (k : IsI w y r) :
    Calls Try.prog 35 #[x, y] w fun e w' => e = .returned (.tuple #[vecOf l, vecOf r, .bool (vok l && vok r)]) ∧ Below w.heap.size w w' := by
  obtain ⟨p0, p1, p2, p3, hp⟩ := vecOf_form l
  obtain ⟨q0, q1, q2, q3, hq⟩ := vecOf_form r
  have H : Hid (∀ w', Below w.heap.size w w' → Calls Try.prog 29 #[x] w' fun e w'' => e = .returned (.tuple #[vec p0 p1 p2 p3, .bool (vok l)]) ∧ Below w'.heap.size w' w'') := fun w' hb => hp ▸ of_any x l w' hl (h.below hb)
  have K : Hid (∀ w', Below w.heap.size w w' → Calls Try.prog 29 #[y] w' fun e w'' => e = .returned (.tuple #[vec q0 q1 q2 q3, .bool (vok r)]) ∧ Below w'.heap.size w' w'') := fun w' hb => hq ▸ of_any y r w' hr (k.below hb)
  rw [hp, hq]
  generalize vok l = b at H ⊢
  generalize vok r = d at K ⊢
  clear hp hq h k hl hr
  have hB0 : Below w.heap.size w ((w.alloc (cell4 0 0 0 0)).alloc (cell4 0 0 0 0)) := ((Below.refl _ w).alloc (Nat.le_refl _) _).alloc (by simp) _
  have hV0 : V4 ((w.alloc (cell4 0 0 0 0)).alloc (cell4 0 0 0 0)) w.heap.size 0 0 0 0 := (V4.new w 0 0 0 0).alloc _
  have hV1 : V4 ((w.alloc (cell4 0 0 0 0)).alloc (cell4 0 0 0 0)) (w.heap.size + 1) 0 0 0 0 := by have := V4.new (w.alloc (cell4 0 0 0 0)) 0 0 0 0; rwa [show (w.alloc (cell4 0 0 0 0)).heap.size = w.heap.size + 1 by simp] at this
  have HB0 : Hid (Below w.heap.size w ((w.alloc (cell4 0 0 0 0)).alloc (cell4 0 0 0 0))) := hB0
  have HV0 : Hid (V4 ((w.alloc (cell4 0 0 0 0)).alloc (cell4 0 0 0 0)) w.heap.size 0 0 0 0) := hV0
  have HV1 : Hid (V4 ((w.alloc (cell4 0 0 0 0)).alloc (cell4 0 0 0 0)) (w.heap.size + 1) 0 0 0 0) := hV1
  clear hB0 hV0 hV1
  cases b <;> cases d
  · go_enter Try.func35, Try.ntmps35
    go_wp2_with fail
    refine (H.out _ HB0.out).mono ?_
    rintro e w1 ⟨rfl, hb1⟩
    have HB1 : Hid (Below w.heap.size w (w1.alloc (cell4 p0 p1 p2 p3))) := (HB0.out.trans (hb1.mono HB0.out.size)).alloc (by have := HB0.out.size; have := hb1.size; omega) _
    have HV2 : Hid (V4 (w1.alloc (cell4 p0 p1 p2 p3)) w.heap.size 0 0 0 0) := (HV0.out.keep hb1 HV0.out.lt).alloc _
    have HV3 : Hid (V4 (w1.alloc (cell4 p0 p1 p2 p3)) (w.heap.size + 1) 0 0 0 0) := (HV1.out.keep hb1 HV1.out.lt).alloc _
    have HV4 : Hid (V4 (w1.alloc (cell4 p0 p1 p2 p3)) w1.heap.size p0 p1 p2 p3) := V4.new _ _ _ _ _
    have hz1 : w.heap.size + 1 < w1.heap.size := Nat.lt_of_lt_of_le HV1.out.lt hb1.size
    clear hb1 HB0 HV0 HV1 H
    go_wp2_with fail
    refine (K.out _ HB1.out).mono ?_
    rintro e w2 ⟨rfl, hb2⟩
    have HB2 : Hid (Below w.heap.size w (w2.alloc (cell4 q0 q1 q2 q3))) := (HB1.out.trans (hb2.mono HB1.out.size)).alloc (by have := HB1.out.size; have := hb2.size; omega) _
    have hV5 := (HV2.out.keep hb2 HV2.out.lt).alloc (cell4 q0 q1 q2 q3)
    have hV6 := (HV3.out.keep hb2 HV3.out.lt).alloc (cell4 q0 q1 q2 q3)
    have hV7 := (HV4.out.keep hb2 HV4.out.lt).alloc (cell4 q0 q1 q2 q3)
    have hV8 := V4.new w2 q0 q1 q2 q3
    have hz2 : w1.heap.size < w2.heap.size := Nat.lt_of_lt_of_le HV4.out.lt hb2.size
    clear hb2 HB1 HV2 HV3 HV4 K
    go_wp2_with fail
    generalize w2.alloc (cell4 q0 q1 q2 q3) = W at HB2 hV5 hV6 hV7 hV8 ⊢
    have HV5 : Hid (V4 W w.heap.size 0 0 0 0) := hV5
    have HV6 : Hid (V4 W (w.heap.size + 1) 0 0 0 0) := hV6
    obtain ⟨f0, f1, f2, f3, fz⟩ := hV5.cells
    obtain ⟨g0, g1, g2, g3, gz⟩ := hV6.cells
    obtain ⟨h0, h1, h2, h3, _⟩ := hV7.cells
    obtain ⟨k0, k1, k2, k3, _⟩ := hV8.cells
    clear hV5 hV6 hV7 hV8
    go_big_region
    clear f0 f1 f2 f3 fz g0 g1 g2 g3 gz h0 h1 h2 h3 k0 k1 k2 k3
    have hW : ∀ X : World, X = put4 (put4 W w.heap.size p0 p1 p2 p3) (w.heap.size + 1) q0 q1 q2 q3 → V4 X w.heap.size p0 p1 p2 p3 ∧ V4 X (w.heap.size + 1) q0 q1 q2 q3 ∧ Below w.heap.size w X := fun X h => by
      rw [h]
      exact ⟨(HV5.out.put p0 p1 p2 p3).other (by omega) _ _ _ _, (HV6.out.other (by omega) _ _ _ _).put _ _ _ _, put4_below (put4_below HB2.out (Nat.le_refl _) _ _ _ _) (by omega) _ _ _ _⟩
    generalize hG : (((((((W.setCell ⟨w.heap.size, 0, none⟩ (.int .i64 p0)).setCell ⟨w.heap.size, 1, none⟩ (.int .i64 p1)).setCell ⟨w.heap.size, 2, none⟩ (.int .i64 p2)).setCell ⟨w.heap.size, 3, none⟩ (.int .i64 p3)).setCell ⟨w.heap.size + 1, 0, none⟩ (.int .i64 q0)).setCell ⟨w.heap.size + 1, 1, none⟩ (.int .i64 q1)).setCell ⟨w.heap.size + 1, 2, none⟩ (.int .i64 q2)).setCell ⟨w.heap.size + 1, 3, none⟩ (.int .i64 q3) = X
    obtain ⟨hX, hY, hB⟩ := hW X hG.symm
    obtain ⟨f0, f1, f2, f3, fz⟩ := hX.cells
    obtain ⟨g0, g1, g2, g3, gz⟩ := hY.cells
    clear hW hG hX hY
    go_wp2
    exact bodyPost_ret (v := .tuple #[vec p0 p1 p2 p3, vec q0 q1 q2 q3, .bool false]) (by simp [results, Try.results35, go_sem, f0, f1, f2, f3, g0, g1, g2, g3]) rfl ⟨rfl, hB.drew⟩
  · go_enter Try.func35, Try.ntmps35
    go_wp2_with fail
    refine (H.out _ HB0.out).mono ?_
    rintro e w1 ⟨rfl, hb1⟩
    have HB1 : Hid (Below w.heap.size w (w1.alloc (cell4 p0 p1 p2 p3))) := (HB0.out.trans (hb1.mono HB0.out.size)).alloc (by have := HB0.out.size; have := hb1.size; omega) _
    have HV2 : Hid (V4 (w1.alloc (cell4 p0 p1 p2 p3)) w.heap.size 0 0 0 0) := (HV0.out.keep hb1 HV0.out.lt).alloc _
    have HV3 : Hid (V4 (w1.alloc (cell4 p0 p1 p2 p3)) (w.heap.size + 1) 0 0 0 0) := (HV1.out.keep hb1 HV1.out.lt).alloc _
    have HV4 : Hid (V4 (w1.alloc (cell4 p0 p1 p2 p3)) w1.heap.size p0 p1 p2 p3) := V4.new _ _ _ _ _
    have hz1 : w.heap.size + 1 < w1.heap.size := Nat.lt_of_lt_of_le HV1.out.lt hb1.size
    clear hb1 HB0 HV0 HV1 H
    go_wp2_with fail
    refine (K.out _ HB1.out).mono ?_
    rintro e w2 ⟨rfl, hb2⟩
    have HB2 : Hid (Below w.heap.size w (w2.alloc (cell4 q0 q1 q2 q3))) := (HB1.out.trans (hb2.mono HB1.out.size)).alloc (by have := HB1.out.size; have := hb2.size; omega) _
    have hV5 := (HV2.out.keep hb2 HV2.out.lt).alloc (cell4 q0 q1 q2 q3)
    have hV6 := (HV3.out.keep hb2 HV3.out.lt).alloc (cell4 q0 q1 q2 q3)
    have hV7 := (HV4.out.keep hb2 HV4.out.lt).alloc (cell4 q0 q1 q2 q3)
    have hV8 := V4.new w2 q0 q1 q2 q3
    have hz2 : w1.heap.size < w2.heap.size := Nat.lt_of_lt_of_le HV4.out.lt hb2.size
    clear hb2 HB1 HV2 HV3 HV4 K
    go_wp2_with fail
    generalize w2.alloc (cell4 q0 q1 q2 q3) = W at HB2 hV5 hV6 hV7 hV8 ⊢
    have HV5 : Hid (V4 W w.heap.size 0 0 0 0) := hV5
    have HV6 : Hid (V4 W (w.heap.size + 1) 0 0 0 0) := hV6
    obtain ⟨f0, f1, f2, f3, fz⟩ := hV5.cells
    obtain ⟨g0, g1, g2, g3, gz⟩ := hV6.cells
    obtain ⟨h0, h1, h2, h3, _⟩ := hV7.cells
    obtain ⟨k0, k1, k2, k3, _⟩ := hV8.cells
    clear hV5 hV6 hV7 hV8
    go_big_region
    clear f0 f1 f2 f3 fz g0 g1 g2 g3 gz h0 h1 h2 h3 k0 k1 k2 k3
    have hW : ∀ X : World, X = put4 (put4 W w.heap.size p0 p1 p2 p3) (w.heap.size + 1) q0 q1 q2 q3 → V4 X w.heap.size p0 p1 p2 p3 ∧ V4 X (w.heap.size + 1) q0 q1 q2 q3 ∧ Below w.heap.size w X := fun X h => by
      rw [h]
      exact ⟨(HV5.out.put p0 p1 p2 p3).other (by omega) _ _ _ _, (HV6.out.other (by omega) _ _ _ _).put _ _ _ _, put4_below (put4_below HB2.out (Nat.le_refl _) _ _ _ _) (by omega) _ _ _ _⟩
    generalize hG : (((((((W.setCell ⟨w.heap.size, 0, none⟩ (.int .i64 p0)).setCell ⟨w.heap.size, 1, none⟩ (.int .i64 p1)).setCell ⟨w.heap.size, 2, none⟩ (.int .i64 p2)).setCell ⟨w.heap.size, 3, none⟩ (.int .i64 p3)).setCell ⟨w.heap.size + 1, 0, none⟩ (.int .i64 q0)).setCell ⟨w.heap.size + 1, 1, none⟩ (.int .i64 q1)).setCell ⟨w.heap.size + 1, 2, none⟩ (.int .i64 q2)).setCell ⟨w.heap.size + 1, 3, none⟩ (.int .i64 q3) = X
    obtain ⟨hX, hY, hB⟩ := hW X hG.symm
    obtain ⟨f0, f1, f2, f3, fz⟩ := hX.cells
    obtain ⟨g0, g1, g2, g3, gz⟩ := hY.cells
    clear hW hG hX hY
    go_wp2
    exact bodyPost_ret (v := .tuple #[vec p0 p1 p2 p3, vec q0 q1 q2 q3, .bool false]) (by simp [results, Try.results35, go_sem, f0, f1, f2, f3, g0, g1, g2, g3]) rfl ⟨rfl, hB.drew⟩
  · go_enter Try.func35, Try.ntmps35
    go_wp2_with fail
    refine (H.out _ HB0.out).mono ?_
    rintro e w1 ⟨rfl, hb1⟩
    have HB1 : Hid (Below w.heap.size w (w1.alloc (cell4 p0 p1 p2 p3))) := (HB0.out.trans (hb1.mono HB0.out.size)).alloc (by have := HB0.out.size; have := hb1.size; omega) _
    have HV2 : Hid (V4 (w1.alloc (cell4 p0 p1 p2 p3)) w.heap.size 0 0 0 0) := (HV0.out.keep hb1 HV0.out.lt).alloc _
    have HV3 : Hid (V4 (w1.alloc (cell4 p0 p1 p2 p3)) (w.heap.size + 1) 0 0 0 0) := (HV1.out.keep hb1 HV1.out.lt).alloc _
    have HV4 : Hid (V4 (w1.alloc (cell4 p0 p1 p2 p3)) w1.heap.size p0 p1 p2 p3) := V4.new _ _ _ _ _
    have hz1 : w.heap.size + 1 < w1.heap.size := Nat.lt_of_lt_of_le HV1.out.lt hb1.size
    clear hb1 HB0 HV0 HV1 H
    go_wp2_with fail
    refine (K.out _ HB1.out).mono ?_
    rintro e w2 ⟨rfl, hb2⟩
    have HB2 : Hid (Below w.heap.size w (w2.alloc (cell4 q0 q1 q2 q3))) := (HB1.out.trans (hb2.mono HB1.out.size)).alloc (by have := HB1.out.size; have := hb2.size; omega) _
    have hV5 := (HV2.out.keep hb2 HV2.out.lt).alloc (cell4 q0 q1 q2 q3)
    have hV6 := (HV3.out.keep hb2 HV3.out.lt).alloc (cell4 q0 q1 q2 q3)
    have hV7 := (HV4.out.keep hb2 HV4.out.lt).alloc (cell4 q0 q1 q2 q3)
    have hV8 := V4.new w2 q0 q1 q2 q3
    have hz2 : w1.heap.size < w2.heap.size := Nat.lt_of_lt_of_le HV4.out.lt hb2.size
    clear hb2 HB1 HV2 HV3 HV4 K
    go_wp2_with fail
    generalize w2.alloc (cell4 q0 q1 q2 q3) = W at HB2 hV5 hV6 hV7 hV8 ⊢
    have HV5 : Hid (V4 W w.heap.size 0 0 0 0) := hV5
    have HV6 : Hid (V4 W (w.heap.size + 1) 0 0 0 0) := hV6
    obtain ⟨f0, f1, f2, f3, fz⟩ := hV5.cells
    obtain ⟨g0, g1, g2, g3, gz⟩ := hV6.cells
    obtain ⟨h0, h1, h2, h3, _⟩ := hV7.cells
    obtain ⟨k0, k1, k2, k3, _⟩ := hV8.cells
    clear hV5 hV6 hV7 hV8
    go_big_region
    clear f0 f1 f2 f3 fz g0 g1 g2 g3 gz h0 h1 h2 h3 k0 k1 k2 k3
    have hW : ∀ X : World, X = put4 (put4 W w.heap.size p0 p1 p2 p3) (w.heap.size + 1) q0 q1 q2 q3 → V4 X w.heap.size p0 p1 p2 p3 ∧ V4 X (w.heap.size + 1) q0 q1 q2 q3 ∧ Below w.heap.size w X := fun X h => by
      rw [h]
      exact ⟨(HV5.out.put p0 p1 p2 p3).other (by omega) _ _ _ _, (HV6.out.other (by omega) _ _ _ _).put _ _ _ _, put4_below (put4_below HB2.out (Nat.le_refl _) _ _ _ _) (by omega) _ _ _ _⟩
    generalize hG : (((((((W.setCell ⟨w.heap.size, 0, none⟩ (.int .i64 p0)).setCell ⟨w.heap.size, 1, none⟩ (.int .i64 p1)).setCell ⟨w.heap.size, 2, none⟩ (.int .i64 p2)).setCell ⟨w.heap.size, 3, none⟩ (.int .i64 p3)).setCell ⟨w.heap.size + 1, 0, none⟩ (.int .i64 q0)).setCell ⟨w.heap.size + 1, 1, none⟩ (.int .i64 q1)).setCell ⟨w.heap.size + 1, 2, none⟩ (.int .i64 q2)).setCell ⟨w.heap.size + 1, 3, none⟩ (.int .i64 q3) = X
    obtain ⟨hX, hY, hB⟩ := hW X hG.symm
    obtain ⟨f0, f1, f2, f3, fz⟩ := hX.cells
    obtain ⟨g0, g1, g2, g3, gz⟩ := hY.cells
    clear hW hG hX hY
    go_wp2
    exact bodyPost_ret (v := .tuple #[vec p0 p1 p2 p3, vec q0 q1 q2 q3, .bool false]) (by simp [results, Try.results35, go_sem, f0, f1, f2, f3, g0, g1, g2, g3]) rfl ⟨rfl, hB.drew⟩
  · go_enter Try.func35, Try.ntmps35
    go_wp2_with fail
    refine (H.out _ HB0.out).mono ?_
    rintro e w1 ⟨rfl, hb1⟩
    have HB1 : Hid (Below w.heap.size w (w1.alloc (cell4 p0 p1 p2 p3))) := (HB0.out.trans (hb1.mono HB0.out.size)).alloc (by have := HB0.out.size; have := hb1.size; omega) _
    have HV2 : Hid (V4 (w1.alloc (cell4 p0 p1 p2 p3)) w.heap.size 0 0 0 0) := (HV0.out.keep hb1 HV0.out.lt).alloc _
    have HV3 : Hid (V4 (w1.alloc (cell4 p0 p1 p2 p3)) (w.heap.size + 1) 0 0 0 0) := (HV1.out.keep hb1 HV1.out.lt).alloc _
    have HV4 : Hid (V4 (w1.alloc (cell4 p0 p1 p2 p3)) w1.heap.size p0 p1 p2 p3) := V4.new _ _ _ _ _
    have hz1 : w.heap.size + 1 < w1.heap.size := Nat.lt_of_lt_of_le HV1.out.lt hb1.size
    clear hb1 HB0 HV0 HV1 H
    go_wp2_with fail
    refine (K.out _ HB1.out).mono ?_
    rintro e w2 ⟨rfl, hb2⟩
    have HB2 : Hid (Below w.heap.size w (w2.alloc (cell4 q0 q1 q2 q3))) := (HB1.out.trans (hb2.mono HB1.out.size)).alloc (by have := HB1.out.size; have := hb2.size; omega) _
    have hV5 := (HV2.out.keep hb2 HV2.out.lt).alloc (cell4 q0 q1 q2 q3)
    have hV6 := (HV3.out.keep hb2 HV3.out.lt).alloc (cell4 q0 q1 q2 q3)
    have hV7 := (HV4.out.keep hb2 HV4.out.lt).alloc (cell4 q0 q1 q2 q3)
    have hV8 := V4.new w2 q0 q1 q2 q3
    have hz2 : w1.heap.size < w2.heap.size := Nat.lt_of_lt_of_le HV4.out.lt hb2.size
    clear hb2 HB1 HV2 HV3 HV4 K
    go_wp2_with fail
    generalize w2.alloc (cell4 q0 q1 q2 q3) = W at HB2 hV5 hV6 hV7 hV8 ⊢
    have HV5 : Hid (V4 W w.heap.size 0 0 0 0) := hV5
    have HV6 : Hid (V4 W (w.heap.size + 1) 0 0 0 0) := hV6
    obtain ⟨f0, f1, f2, f3, fz⟩ := hV5.cells
    obtain ⟨g0, g1, g2, g3, gz⟩ := hV6.cells
    obtain ⟨h0, h1, h2, h3, _⟩ := hV7.cells
    obtain ⟨k0, k1, k2, k3, _⟩ := hV8.cells
    clear hV5 hV6 hV7 hV8
    go_big_region
    clear f0 f1 f2 f3 fz g0 g1 g2 g3 gz h0 h1 h2 h3 k0 k1 k2 k3
    have hW : ∀ X : World, X = put4 (put4 W w.heap.size p0 p1 p2 p3) (w.heap.size + 1) q0 q1 q2 q3 → V4 X w.heap.size p0 p1 p2 p3 ∧ V4 X (w.heap.size + 1) q0 q1 q2 q3 ∧ Below w.heap.size w X := fun X h => by
      rw [h]
      exact ⟨(HV5.out.put p0 p1 p2 p3).other (by omega) _ _ _ _, (HV6.out.other (by omega) _ _ _ _).put _ _ _ _, put4_below (put4_below HB2.out (Nat.le_refl _) _ _ _ _) (by omega) _ _ _ _⟩
    generalize hG : (((((((W.setCell ⟨w.heap.size, 0, none⟩ (.int .i64 p0)).setCell ⟨w.heap.size, 1, none⟩ (.int .i64 p1)).setCell ⟨w.heap.size, 2, none⟩ (.int .i64 p2)).setCell ⟨w.heap.size, 3, none⟩ (.int .i64 p3)).setCell ⟨w.heap.size + 1, 0, none⟩ (.int .i64 q0)).setCell ⟨w.heap.size + 1, 1, none⟩ (.int .i64 q1)).setCell ⟨w.heap.size + 1, 2, none⟩ (.int .i64 q2)).setCell ⟨w.heap.size + 1, 3, none⟩ (.int .i64 q3) = X
    obtain ⟨hX, hY, hB⟩ := hW X hG.symm
    obtain ⟨f0, f1, f2, f3, fz⟩ := hX.cells
    obtain ⟨g0, g1, g2, g3, gz⟩ := hY.cells
    clear hW hG hX hY
    go_wp2
    exact bodyPost_ret (v := .tuple #[vec p0 p1 p2 p3, vec q0 q1 q2 q3, .bool true]) (by simp [results, Try.results35, go_sem, f0, f1, f2, f3, g0, g1, g2, g3]) rfl ⟨rfl, hB.drew⟩

theorem vok_len {l : List Int} (h : vok l = true) : l.length = 4 := by
  simp only [vok, Bool.and_eq_true, decide_eq_true_eq] at h; exact h.2
end Go.Proofs.Ytofbholpggkjcaa

/- Vectors: the program's Meets and Refines. -/
namespace Go.Proofs.Ytofbholpggkjcaa
open Go.RowKit
/- One of both is none: the program's Meets and Refines say no; else they go by the four numbers. -/
set_option maxHeartbeats 1000000 in
theorem iMeets_any (x y : Value) (l r : List Int) (w : World) (hl : l.length ≤ 4611686018427387904) (hr : r.length ≤ 4611686018427387904) (h : IsI w x l) (k : IsI w y r) :
    Calls Try.prog 26 #[x, y] w fun e w' => e = .returned (.bool (vok l && vok r && meetB l r)) ∧ Below w.heap.size w w' := by
  have H := two_any x y l r w hl hr h k
  cases hv : (vok l && vok r) with
  | false =>
    rw [hv] at H
    obtain ⟨p0, p1, p2, p3, hp⟩ := vecOf_form l
    obtain ⟨q0, q1, q2, q3, hq⟩ := vecOf_form r
    rw [hp, hq] at H
    clear hp hq
    go_enter Try.func26, Try.ntmps26
    go_wp2_with fail
    refine H.mono ?_
    rintro e w1 ⟨rfl, hb1⟩
    go_wp2
    go_ret
    exact ⟨rfl, (hb1.alloc hb1.size _).alloc (by have := hb1.size; simp; omega) _⟩
  | true =>
    rw [hv] at H
    rw [Bool.and_eq_true] at hv
    obtain ⟨a0, a1, a2, a3, rfl, _⟩ := vok_four hv.1
    obtain ⟨b0, b1, b2, b3, rfl, _⟩ := vok_four hv.2
    rw [vecOf_four _ _ _ _ hv.1, vecOf_four _ _ _ _ hv.2] at H
    have M := fun W => meets_any a0 a1 a2 a3 b0 b1 b2 b3 W
    generalize meetB [a0, a1, a2, a3] [b0, b1, b2, b3] = m at M ⊢
    have M' : Hid (∀ W, _) := M
    clear M
    go_enter Try.func26, Try.ntmps26
    go_wp2_with fail
    refine H.mono ?_
    rintro e w1 ⟨rfl, hb1⟩
    go_wp2_with fail
    refine (M'.out _).mono ?_
    rintro e w2 ⟨rfl, hb2⟩
    go_wp2
    go_ret
    exact ⟨rfl, ((hb1.alloc hb1.size _).alloc (by have := hb1.size; simp; omega) _).trans (hb2.mono (by have := hb1.size; simp; omega))⟩

set_option maxHeartbeats 1000000 in
theorem iRefines_any (x y : Value) (l r : List Int) (w : World) (hl : l.length ≤ 4611686018427387904) (hr : r.length ≤ 4611686018427387904) (h : IsI w x l) (k : IsI w y r) :
    Calls Try.prog 28 #[x, y] w fun e w' => e = .returned (.bool (vok l && vok r && refB l r)) ∧ Below w.heap.size w w' := by
  have H := two_any x y l r w hl hr h k
  cases hv : (vok l && vok r) with
  | false =>
    rw [hv] at H
    obtain ⟨p0, p1, p2, p3, hp⟩ := vecOf_form l
    obtain ⟨q0, q1, q2, q3, hq⟩ := vecOf_form r
    rw [hp, hq] at H
    clear hp hq
    go_enter Try.func28, Try.ntmps28
    go_wp2_with fail
    refine H.mono ?_
    rintro e w1 ⟨rfl, hb1⟩
    go_wp2
    go_ret
    exact ⟨rfl, (hb1.alloc hb1.size _).alloc (by have := hb1.size; simp; omega) _⟩
  | true =>
    rw [hv] at H
    rw [Bool.and_eq_true] at hv
    obtain ⟨a0, a1, a2, a3, rfl, _⟩ := vok_four hv.1
    obtain ⟨b0, b1, b2, b3, rfl, _⟩ := vok_four hv.2
    rw [vecOf_four _ _ _ _ hv.1, vecOf_four _ _ _ _ hv.2] at H
    have M := fun W => refines_any a0 a1 a2 a3 b0 b1 b2 b3 W
    generalize refB [a0, a1, a2, a3] [b0, b1, b2, b3] = m at M ⊢
    have M' : Hid (∀ W, _) := M
    clear M
    go_enter Try.func28, Try.ntmps28
    go_wp2_with fail
    refine H.mono ?_
    rintro e w1 ⟨rfl, hb1⟩
    go_wp2_with fail
    refine (M'.out _).mono ?_
    rintro e w2 ⟨rfl, hb2⟩
    go_wp2
    go_ret
    exact ⟨rfl, ((hb1.alloc hb1.size _).alloc (by have := hb1.size; simp; omega) _).trans (hb2.mono (by have := hb1.size; simp; omega))⟩
end Go.Proofs.Ytofbholpggkjcaa

/- Vectors: the specification's Meets and Refines. -/
namespace Go.Proofs.Ytofbholpggkjcaa
open Go.RowKit
theorem vok_at {l : List Int} (h : vok l = true) (j : Nat) (hj : j < 4) : -1 ≤ intAt l j ∧ intAt l j ≤ 1 := by
  obtain ⟨a, b, c, d, rfl, h0, h1, h2, h3⟩ := vok_four h
  have hj4 : j = 0 ∨ j = 1 ∨ j = 2 ∨ j = 3 := by omega
  rcases hj4 with rfl | rfl | rfl | rfl
  · exact h0
  · exact h1
  · exact h2
  · exact h3
theorem vok_len4 {l : List Int} (h : vok l = true) : l.length = 4 := by
  simp only [vok, Bool.and_eq_true, decide_eq_true_eq] at h; exact h.2
theorem IsI.four {w : World} {x : Value} {l : List Int} (h : IsI w x l) (hl : l.length = 4) : ∃ b off cap, x = .slice (some ⟨b, off, none⟩) 4 cap ∧ IntsAt w b off l := by
  obtain ⟨a, cap, rfl, _, _, h⟩ := h
  obtain ⟨b, off, rfl, h'⟩ := h.resolve_left (by rintro rfl; simp at hl)
  exact ⟨b, off, cap, by rw [hl], h'⟩
set_option maxHeartbeats 1000000 in
theorem sMeets_any (x y : Value) (l r : List Int) (w : World) (hl : l.length ≤ 4611686018427387904) (hr : r.length ≤ 4611686018427387904) (h : IsI w x l) (k : IsI w y r) :
    Calls Try.prog 25 #[x, y] w fun e w' => e = .returned (.bool (vok l && vok r && meetB l r)) ∧ Below w.heap.size w w' := by
  have H : Hid (Calls Try.prog 9 #[x] w fun e w' => e = .returned (.bool (vok l)) ∧ w' = w) := sVok_any x l w hl h
  have K : Hid (Calls Try.prog 9 #[y] w fun e w' => e = .returned (.bool (vok r)) ∧ w' = w) := sVok_any y r w hr k
  cases hv : vok l with
  | false =>
    rw [hv] at H
    clear h k
    go_enter Try.func25, Try.ntmps25
    go_wp2_with fail
    refine H.out.mono ?_
    rintro e w1 ⟨rfl, hw⟩
    obtain rfl := hw.symm
    go_wp2
    go_ret
    exact ⟨rfl, Below.refl _ _⟩
  | true =>
    cases hu : vok r with
    | false =>
      rw [hv] at H
      rw [hu] at K
      clear h k
      go_enter Try.func25, Try.ntmps25
      go_wp2_with fail
      refine H.out.mono ?_
      rintro e w1 ⟨rfl, hw⟩
      obtain rfl := hw.symm
      go_wp2_with fail
      refine K.out.mono ?_
      rintro e w1 ⟨rfl, hw⟩
      obtain rfl := hw.symm
      go_wp2
      go_ret
      exact ⟨rfl, Below.refl _ _⟩
    | true =>
      rw [hv] at H
      rw [hu] at K
      obtain ⟨b, off, cap, rfl, hI⟩ := h.four (vok_len4 hv)
      obtain ⟨b', off', cap', rfl, hJ⟩ := k.four (vok_len4 hu)
      have M : Hid (Calls Try.prog 37 #[.slice (some ⟨b, off, none⟩) 4 cap, .slice (some ⟨b', off', none⟩) 4 cap'] w fun e w' => e = .returned (.bool (meetB l r)) ∧ Below w.heap.size w w') := l6meet_any b off cap b' off' cap' l r w (vok_len4 hv) (vok_len4 hu) (fun j hj => (vok_at hv j hj).1) (fun j hj => (vok_at hu j hj).1) hI hJ
      generalize meetB l r = m at M ⊢
      clear h k hI hJ
      go_enter Try.func25, Try.ntmps25
      go_wp2_with fail
      refine H.out.mono ?_
      rintro e w1 ⟨rfl, hw⟩
      obtain rfl := hw.symm
      go_wp2_with fail
      refine K.out.mono ?_
      rintro e w1 ⟨rfl, hw⟩
      obtain rfl := hw.symm
      go_wp2_with fail
      refine M.out.mono ?_
      rintro e w1 ⟨rfl, hb1⟩
      go_wp2
      go_ret
      exact ⟨rfl, hb1⟩
end Go.Proofs.Ytofbholpggkjcaa

