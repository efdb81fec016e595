/- VTwo, VImp, VSpec, VTo, VLow -/
import Derived.Test.YtofbholpggkjcabRefinesG02
import Derived.Test.YtofbholpggkjcabRefinesG00
/- Vectors: the program's vectorsOf, Meets, Refines. -/
namespace Go.Proofs.Ytofbholpggkjcab
open Go.RowKit
theorem vecOf_form (l : List Int) : ∃ a b c d : Int, vecOf l = vec a b c d := by
  unfold vecOf; split
  · exact ⟨_, _, _, _, rfl⟩
  · exact ⟨0, 0, 0, 0, rfl⟩
theorem vecOf_four (a b c d : Int) (h : vok [a, b, c, d] = true) : vecOf [a, b, c, d] = vec a b c d := by simp [vecOf, h, intAt]
set_option maxHeartbeats 4000000 in
theorem two_any (x y : Value) (l r : List Int) (w : World) (hl : l.length ≤ 4611686018427387904) (hr : r.length ≤ 4611686018427387904) (h : IsI w x l) (k : IsI w y r) :
    Calls Try.prog 27 #[x, y] w fun e w' => e = .returned (.tuple #[vecOf l, vecOf r, .bool (vok l && vok r)]) ∧ Below w.heap.size w w' := by
  obtain ⟨p0, p1, p2, p3, hp⟩ := vecOf_form l
  obtain ⟨q0, q1, q2, q3, hq⟩ := vecOf_form r
  have H : Hid (∀ w', Below w.heap.size w w' → Calls Try.prog 20 #[x] w' fun e w'' => e = .returned (.tuple #[vec p0 p1 p2 p3, .bool (vok l)]) ∧ Below w'.heap.size w' w'') := fun w' hb => hp ▸ of_any x l w' hl (h.below hb)
  have K : Hid (∀ w', Below w.heap.size w w' → Calls Try.prog 20 #[y] w' fun e w'' => e = .returned (.tuple #[vec q0 q1 q2 q3, .bool (vok r)]) ∧ Below w'.heap.size w' w'') := fun w' hb => hq ▸ of_any y r w' hr (k.below hb)
  rw [hp, hq]
  generalize vok l = b at H ⊢
  generalize vok r = d at K ⊢
  clear hp hq h k hl hr
  have hB0 : Below w.heap.size w ((w.alloc (cell4 0 0 0 0)).alloc (cell4 0 0 0 0)) := ((Below.refl _ w).alloc (Nat.le_refl _) _).alloc (by simp) _
  have hV0 : V4 ((w.alloc (cell4 0 0 0 0)).alloc (cell4 0 0 0 0)) w.heap.size 0 0 0 0 := (V4.new w 0 0 0 0).alloc _
  have hV1 : V4 ((w.alloc (cell4 0 0 0 0)).alloc (cell4 0 0 0 0)) (w.heap.size + 1) 0 0 0 0 := by have := V4.new (w.alloc (cell4 0 0 0 0)) 0 0 0 0; rwa [show (w.alloc (cell4 0 0 0 0)).heap.size = w.heap.size + 1 by simp] at this
  have HB0 : Hid (Below w.heap.size w ((w.alloc (cell4 0 0 0 0)).alloc (cell4 0 0 0 0))) := hB0
  have HV0 : Hid (V4 ((w.alloc (cell4 0 0 0 0)).alloc (cell4 0 0 0 0)) w.heap.size 0 0 0 0) := hV0
  have HV1 : Hid (V4 ((w.alloc (cell4 0 0 0 0)).alloc (cell4 0 0 0 0)) (w.heap.size + 1) 0 0 0 0) := hV1
  clear hB0 hV0 hV1
  cases b <;> cases d
  · go_enter Try.func27, Try.ntmps27
    go_wp2_with fail
    refine (H.out _ HB0.out).mono ?_
    rintro e w1 ⟨rfl, hb1⟩
    have HB1 : Hid (Below w.heap.size w (w1.alloc (cell4 p0 p1 p2 p3))) := (HB0.out.trans (hb1.mono HB0.out.size)).alloc (by have := HB0.out.size; have := hb1.size; omega) _
    have HV2 : Hid (V4 (w1.alloc (cell4 p0 p1 p2 p3)) w.heap.size 0 0 0 0) := (HV0.out.keep hb1 HV0.out.lt).alloc _
    have HV3 : Hid (V4 (w1.alloc (cell4 p0 p1 p2 p3)) (w.heap.size + 1) 0 0 0 0) := (HV1.out.keep hb1 HV1.out.lt).alloc _
    have HV4 : Hid (V4 (w1.alloc (cell4 p0 p1 p2 p3)) w1.heap.size p0 p1 p2 p3) := V4.new _ _ _ _ _
    have hz1 : w.heap.size + 1 < w1.heap.size := Nat.lt_of_lt_of_le HV1.out.lt hb1.size
    clear hb1 HB0 HV0 HV1 H
    go_wp2_with fail
    refine (K.out _ HB1.out).mono ?_
    rintro e w2 ⟨rfl, hb2⟩
    have HB2 : Hid (Below w.heap.size w (w2.alloc (cell4 q0 q1 q2 q3))) := (HB1.out.trans (hb2.mono HB1.out.size)).alloc (by have := HB1.out.size; have := hb2.size; omega) _
    have hV5 := (HV2.out.keep hb2 HV2.out.lt).alloc (cell4 q0 q1 q2 q3)
    have hV6 := (HV3.out.keep hb2 HV3.out.lt).alloc (cell4 q0 q1 q2 q3)
    have hV7 := (HV4.out.keep hb2 HV4.out.lt).alloc (cell4 q0 q1 q2 q3)
    have hV8 := V4.new w2 q0 q1 q2 q3
    have hz2 : w1.heap.size < w2.heap.size := Nat.lt_of_lt_of_le HV4.out.lt hb2.size
    clear hb2 HB1 HV2 HV3 HV4 K
    go_wp2_with fail
    generalize w2.alloc (cell4 q0 q1 q2 q3) = W at HB2 hV5 hV6 hV7 hV8 ⊢
    have HV5 : Hid (V4 W w.heap.size 0 0 0 0) := hV5
    have HV6 : Hid (V4 W (w.heap.size + 1) 0 0 0 0) := hV6
    obtain ⟨f0, f1, f2, f3, fz⟩ := hV5.cells
    obtain ⟨g0, g1, g2, g3, gz⟩ := hV6.cells
    obtain ⟨h0, h1, h2, h3, _⟩ := hV7.cells
    obtain ⟨k0, k1, k2, k3, _⟩ := hV8.cells
    clear hV5 hV6 hV7 hV8
    go_big_region
    clear f0 f1 f2 f3 fz g0 g1 g2 g3 gz h0 h1 h2 h3 k0 k1 k2 k3
    have hW : ∀ X : World, X = put4 (put4 W w.heap.size p0 p1 p2 p3) (w.heap.size + 1) q0 q1 q2 q3 → V4 X w.heap.size p0 p1 p2 p3 ∧ V4 X (w.heap.size + 1) q0 q1 q2 q3 ∧ Below w.heap.size w X := fun X h => by
      rw [h]
      exact ⟨(HV5.out.put p0 p1 p2 p3).other (by omega) _ _ _ _, (HV6.out.other (by omega) _ _ _ _).put _ _ _ _, put4_below (put4_below HB2.out (Nat.le_refl _) _ _ _ _) (by omega) _ _ _ _⟩
    generalize hG : (((((((W.setCell ⟨w.heap.size, 0, none⟩ (.int .i64 p0)).setCell ⟨w.heap.size, 1, none⟩ (.int .i64 p1)).setCell ⟨w.heap.size, 2, none⟩ (.int .i64 p2)).setCell ⟨w.heap.size, 3, none⟩ (.int .i64 p3)).setCell ⟨w.heap.size + 1, 0, none⟩ (.int .i64 q0)).setCell ⟨w.heap.size + 1, 1, none⟩ (.int .i64 q1)).setCell ⟨w.heap.size + 1, 2, none⟩ (.int .i64 q2)).setCell ⟨w.heap.size + 1, 3, none⟩ (.int .i64 q3) = X
    obtain ⟨hX, hY, hB⟩ := hW X hG.symm
    obtain ⟨f0, f1, f2, f3, fz⟩ := hX.cells
    obtain ⟨g0, g1, g2, g3, gz⟩ := hY.cells
    clear hW hG hX hY
    go_wp2
    exact bodyPost_ret (v := .tuple #[vec p0 p1 p2 p3, vec q0 q1 q2 q3, .bool false]) (by simp [results, Try.results27, go_sem, f0, f1, f2, f3, g0, g1, g2, g3]) rfl ⟨rfl, hB.drew⟩
  · go_enter Try.func27, Try.ntmps27
    go_wp2_with fail
    refine (H.out _ HB0.out).mono ?_
    rintro e w1 ⟨rfl, hb1⟩
    have HB1 : Hid (Below w.heap.size w (w1.alloc (cell4 p0 p1 p2 p3))) := (HB0.out.trans (hb1.mono HB0.out.size)).alloc (by have := HB0.out.size; have := hb1.size; omega) _
    have HV2 : Hid (V4 (w1.alloc (cell4 p0 p1 p2 p3)) w.heap.size 0 0 0 0) := (HV0.out.keep hb1 HV0.out.lt).alloc _
    have HV3 : Hid (V4 (w1.alloc (cell4 p0 p1 p2 p3)) (w.heap.size + 1) 0 0 0 0) := (HV1.out.keep hb1 HV1.out.lt).alloc _
    have HV4 : Hid (V4 (w1.alloc (cell4 p0 p1 p2 p3)) w1.heap.size p0 p1 p2 p3) := V4.new _ _ _ _ _
    have hz1 : w.heap.size + 1 < w1.heap.size := Nat.lt_of_lt_of_le HV1.out.lt hb1.size
    clear hb1 HB0 HV0 HV1 H
    go_wp2_with fail
    refine (K.out _ HB1.out).mono ?_
    rintro e w2 ⟨rfl, hb2⟩
    have HB2 : Hid (Below w.heap.size w (w2.alloc (cell4 q0 q1 q2 q3))) := (HB1.out.trans (hb2.mono HB1.out.size)).alloc (by have := HB1.out.size; have := hb2.size; omega) _
    have hV5 := (HV2.out.keep hb2 HV2.out.lt).alloc (cell4 q0 q1 q2 q3)
    have hV6 := (HV3.out.keep hb2 HV3.out.lt).alloc (cell4 q0 q1 q2 q3)
    have hV7 := (HV4.out.keep hb2 HV4.out.lt).alloc (cell4 q0 q1 q2 q3)
    have hV8 := V4.new w2 q0 q1 q2 q3
    have hz2 : w1.heap.size < w2.heap.size := Nat.lt_of_lt_of_le HV4.out.lt hb2.size
    clear hb2 HB1 HV2 HV3 HV4 K
    go_wp2_with fail
    generalize w2.alloc (cell4 q0 q1 q2 q3) = W at HB2 hV5 hV6 hV7 hV8 ⊢
    have HV5 : Hid (V4 W w.heap.size 0 0 0 0) := hV5
    have HV6 : Hid (V4 W (w.heap.size + 1) 0 0 0 0) := hV6
    obtain ⟨f0, f1, f2, f3, fz⟩ := hV5.cells
    obtain ⟨g0, g1, g2, g3, gz⟩ := hV6.cells
    obtain ⟨h0, h1, h2, h3, _⟩ := hV7.cells
    obtain ⟨k0, k1, k2, k3, _⟩ := hV8.cells
    clear hV5 hV6 hV7 hV8
    go_big_region
    clear f0 f1 f2 f3 fz g0 g1 g2 g3 gz h0 h1 h2 h3 k0 k1 k2 k3
    have hW : ∀ X : World, X = put4 (put4 W w.heap.size p0 p1 p2 p3) (w.heap.size + 1) q0 q1 q2 q3 → V4 X w.heap.size p0 p1 p2 p3 ∧ V4 X (w.heap.size + 1) q0 q1 q2 q3 ∧ Below w.heap.size w X := fun X h => by
      rw [h]
      exact ⟨(HV5.out.put p0 p1 p2 p3).other (by omega) _ _ _ _, (HV6.out.other (by omega) _ _ _ _).put _ _ _ _, put4_below (put4_below HB2.out (Nat.le_refl _) _ _ _ _) (by omega) _ _ _ _⟩
    generalize hG : (((((((W.setCell ⟨w.heap.size, 0, none⟩ (.int .i64 p0)).setCell ⟨w.heap.size, 1, none⟩ (.int .i64 p1)).setCell ⟨w.heap.size, 2, none⟩ (.int .i64 p2)).setCell ⟨w.heap.size, 3, none⟩ (.int .i64 p3)).setCell ⟨w.heap.size + 1, 0, none⟩ (.int .i64 q0)).setCell ⟨w.heap.size + 1, 1, none⟩ (.int .i64 q1)).setCell ⟨w.heap.size + 1, 2, none⟩ (.int .i64 q2)).setCell ⟨w.heap.size + 1, 3, none⟩ (.int .i64 q3) = X
    obtain ⟨hX, hY, hB⟩ := hW X hG.symm
    obtain ⟨f0, f1, f2, f3, fz⟩ := hX.cells
    obtain ⟨g0, g1, g2, g3, gz⟩ := hY.cells
    clear hW hG hX hY
    go_wp2
    exact bodyPost_ret (v := .tuple #[vec p0 p1 p2 p3, vec q0 q1 q2 q3, .bool false]) (by simp [results, Try.results27, go_sem, f0, f1, f2, f3, g0, g1, g2, g3]) rfl ⟨rfl, hB.drew⟩
  · go_enter Try.func27, Try.ntmps27
    go_wp2_with fail
    refine (H.out _ HB0.out).mono ?_
    rintro e w1 ⟨rfl, hb1⟩
    have HB1 : Hid (Below w.heap.size w (w1.alloc (cell4 p0 p1 p2 p3))) := (HB0.out.trans (hb1.mono HB0.out.size)).alloc (by have := HB0.out.size; have := hb1.size; omega) _
    have HV2 : Hid (V4 (w1.alloc (cell4 p0 p1 p2 p3)) w.heap.size 0 0 0 0) := (HV0.out.keep hb1 HV0.out.lt).alloc _
    have HV3 : Hid (V4 (w1.alloc (cell4 p0 p1 p2 p3)) (w.heap.size + 1) 0 0 0 0) := (HV1.out.keep hb1 HV1.out.lt).alloc _
    have HV4 : Hid (V4 (w1.alloc (cell4 p0 p1 p2 p3)) w1.heap.size p0 p1 p2 p3) := V4.new _ _ _ _ _
    have hz1 : w.heap.size + 1 < w1.heap.size := Nat.lt_of_lt_of_le HV1.out.lt hb1.size
    clear hb1 HB0 HV0 HV1 H
    go_wp2_with fail
    refine (K.out _ HB1.out).mono ?_
    rintro e w2 ⟨rfl, hb2⟩
    have HB2 : Hid (Below w.heap.size w (w2.alloc (cell4 q0 q1 q2 q3))) := (HB1.out.trans (hb2.mono HB1.out.size)).alloc (by have := HB1.out.size; have := hb2.size; omega) _
    have hV5 := (HV2.out.keep hb2 HV2.out.lt).alloc (cell4 q0 q1 q2 q3)
    have hV6 := (HV3.out.keep hb2 HV3.out.lt).alloc (cell4 q0 q1 q2 q3)
    have hV7 := (HV4.out.keep hb2 HV4.out.lt).alloc (cell4 q0 q1 q2 q3)
    have hV8 := V4.new w2 q0 q1 q2 q3
    have hz2 : w1.heap.size < w2.heap.size := Nat.lt_of_lt_of_le HV4.out.lt hb2.size
    clear hb2 HB1 HV2 HV3 HV4 K
    go_wp2_with fail
    generalize w2.alloc (cell4 q0 q1 q2 q3) = W at HB2 hV5 hV6 hV7 hV8 ⊢
    have HV5 : Hid (V4 W w.heap.size 0 0 0 0) := hV5
    have HV6 : Hid (V4 W (w.heap.size + 1) 0 0 0 0) := hV6
    obtain ⟨f0, f1, f2, f3, fz⟩ := hV5.cells
    obtain ⟨g0, g1, g2, g3, gz⟩ := hV6.cells
    obtain ⟨h0, h1, h2, h3, _⟩ := hV7.cells
    obtain ⟨k0, k1, k2, k3, _⟩ := hV8.cells
    clear hV5 hV6 hV7 hV8
    go_big_region
    clear f0 f1 f2 f3 fz g0 g1 g2 g3 gz h0 h1 h2 h3 k0 k1 k2 k3
    have hW : ∀ X : World, X = put4 (put4 W w.heap.size p0 p1 p2 p3) (w.heap.size + 1) q0 q1 q2 q3 → V4 X w.heap.size p0 p1 p2 p3 ∧ V4 X (w.heap.size + 1) q0 q1 q2 q3 ∧ Below w.heap.size w X := fun X h => by
      rw [h]
      exact ⟨(HV5.out.put p0 p1 p2 p3).other (by omega) _ _ _ _, (HV6.out.other (by omega) _ _ _ _).put _ _ _ _, put4_below (put4_below HB2.out (Nat.le_refl _) _ _ _ _) (by omega) _ _ _ _⟩
    generalize hG : (((((((W.setCell ⟨w.heap.size, 0, none⟩ (.int .i64 p0)).setCell ⟨w.heap.size, 1, none⟩ (.int .i64 p1)).setCell ⟨w.heap.size, 2, none⟩ (.int .i64 p2)).setCell ⟨w.heap.size, 3, none⟩ (.int .i64 p3)).setCell ⟨w.heap.size + 1, 0, none⟩ (.int .i64 q0)).setCell ⟨w.heap.size + 1, 1, none⟩ (.int .i64 q1)).setCell ⟨w.heap.size + 1, 2, none⟩ (.int .i64 q2)).setCell ⟨w.heap.size + 1, 3, none⟩ (.int .i64 q3) = X
    obtain ⟨hX, hY, hB⟩ := hW X hG.symm
    obtain ⟨f0, f1, f2, f3, fz⟩ := hX.cells
    obtain ⟨g0, g1, g2, g3, gz⟩ := hY.cells
    clear hW hG hX hY
    go_wp2
    exact bodyPost_ret (v := .tuple #[vec p0 p1 p2 p3, vec q0 q1 q2 q3, .bool false]) (by simp [results, Try.results27, go_sem, f0, f1, f2, f3, g0, g1, g2, g3]) rfl ⟨rfl, hB.drew⟩
  · go_enter Try.func27, Try.ntmps27
    go_wp2_with fail
    refine (H.out _ HB0.out).mono ?_
    rintro e w1 ⟨rfl, hb1⟩
    have HB1 : Hid (Below w.heap.size w (w1.alloc (cell4 p0 p1 p2 p3))) := (HB0.out.trans (hb1.mono HB0.out.size)).alloc (by have := HB0.out.size; have := hb1.size; omega) _
    have HV2 : Hid (V4 (w1.alloc (cell4 p0 p1 p2 p3)) w.heap.size 0 0 0 0) := (HV0.out.keep hb1 HV0.out.lt).alloc _
    have HV3 : Hid (V4 (w1.alloc (cell4 p0 p1 p2 p3)) (w.heap.size + 1) 0 0 0 0) := (HV1.out.keep hb1 HV1.out.lt).alloc _
    have HV4 : Hid (V4 (w1.alloc (cell4 p0 p1 p2 p3)) w1.heap.size p0 p1 p2 p3) := V4.new _ _ _ _ _
    have hz1 : w.heap.size + 1 < w1.heap.size := Nat.lt_of_lt_of_le HV1.out.lt hb1.size
    clear hb1 HB0 HV0 HV1 H
    go_wp2_with fail
    refine (K.out _ HB1.out).mono ?_
    rintro e w2 ⟨rfl, hb2⟩
    have HB2 : Hid (Below w.heap.size w (w2.alloc (cell4 q0 q1 q2 q3))) := (HB1.out.trans (hb2.mono HB1.out.size)).alloc (by have := HB1.out.size; have := hb2.size; omega) _
    have hV5 := (HV2.out.keep hb2 HV2.out.lt).alloc (cell4 q0 q1 q2 q3)
    have hV6 := (HV3.out.keep hb2 HV3.out.lt).alloc (cell4 q0 q1 q2 q3)
    have hV7 := (HV4.out.keep hb2 HV4.out.lt).alloc (cell4 q0 q1 q2 q3)
    have hV8 := V4.new w2 q0 q1 q2 q3
    have hz2 : w1.heap.size < w2.heap.size := Nat.lt_of_lt_of_le HV4.out.lt hb2.size
    clear hb2 HB1 HV2 HV3 HV4 K
    go_wp2_with fail
    generalize w2.alloc (cell4 q0 q1 q2 q3) = W at HB2 hV5 hV6 hV7 hV8 ⊢
    have HV5 : Hid (V4 W w.heap.size 0 0 0 0) := hV5
    have HV6 : Hid (V4 W (w.heap.size + 1) 0 0 0 0) := hV6
    obtain ⟨f0, f1, f2, f3, fz⟩ := hV5.cells
    obtain ⟨g0, g1, g2, g3, gz⟩ := hV6.cells
    obtain ⟨h0, h1, h2, h3, _⟩ := hV7.cells
    obtain ⟨k0, k1, k2, k3, _⟩ := hV8.cells
    clear hV5 hV6 hV7 hV8
    go_big_region
    clear f0 f1 f2 f3 fz g0 g1 g2 g3 gz h0 h1 h2 h3 k0 k1 k2 k3
    have hW : ∀ X : World, X = put4 (put4 W w.heap.size p0 p1 p2 p3) (w.heap.size + 1) q0 q1 q2 q3 → V4 X w.heap.size p0 p1 p2 p3 ∧ V4 X (w.heap.size + 1) q0 q1 q2 q3 ∧ Below w.heap.size w X := fun X h => by
      rw [h]
      exact ⟨(HV5.out.put p0 p1 p2 p3).other (by omega) _ _ _ _, (HV6.out.other (by omega) _ _ _ _).put _ _ _ _, put4_below (put4_below HB2.out (Nat.le_refl _) _ _ _ _) (by omega) _ _ _ _⟩
    generalize hG : (((((((W.setCell ⟨w.heap.size, 0, none⟩ (.int .i64 p0)).setCell ⟨w.heap.size, 1, none⟩ (.int .i64 p1)).setCell ⟨w.heap.size, 2, none⟩ (.int .i64 p2)).setCell ⟨w.heap.size, 3, none⟩ (.int .i64 p3)).setCell ⟨w.heap.size + 1, 0, none⟩ (.int .i64 q0)).setCell ⟨w.heap.size + 1, 1, none⟩ (.int .i64 q1)).setCell ⟨w.heap.size + 1, 2, none⟩ (.int .i64 q2)).setCell ⟨w.heap.size + 1, 3, none⟩ (.int .i64 q3) = X
    obtain ⟨hX, hY, hB⟩ := hW X hG.symm
    obtain ⟨f0, f1, f2, f3, fz⟩ := hX.cells
    obtain ⟨g0, g1, g2, g3, gz⟩ := hY.cells
    clear hW hG hX hY
    go_wp2
    exact bodyPost_ret (v := .tuple #[vec p0 p1 p2 p3, vec q0 q1 q2 q3, .bool true]) (by simp [results, Try.results27, go_sem, f0, f1, f2, f3, g0, g1, g2, g3]) rfl ⟨rfl, hB.drew⟩

theorem vok_len {l : List Int} (h : vok l = true) : l.length = 4 := by
  simp only [vok, Bool.and_eq_true, decide_eq_true_eq] at h; exact h.2
end Go.Proofs.Ytofbholpggkjcab

/- Vectors: the program's Meets and Refines. -/
namespace Go.Proofs.Ytofbholpggkjcab
open Go.RowKit
/- One of both is none: the program's Meets and Refines say no; else they go by the four numbers. -/
set_option maxHeartbeats 1000000 in
theorem iMeets_any (x y : Value) (l r : List Int) (w : World) (hl : l.length ≤ 4611686018427387904) (hr : r.length ≤ 4611686018427387904) (h : IsI w x l) (k : IsI w y r) :
    Calls Try.prog 18 #[x, y] w fun e w' => e = .returned (.bool (vok l && vok r && meetB l r)) ∧ Below w.heap.size w w' := by
  have H := two_any x y l r w hl hr h k
  cases hv : (vok l && vok r) with
  | false =>
    rw [hv] at H
    obtain ⟨p0, p1, p2, p3, hp⟩ := vecOf_form l
    obtain ⟨q0, q1, q2, q3, hq⟩ := vecOf_form r
    rw [hp, hq] at H
    clear hp hq
    go_enter Try.func18, Try.ntmps18
    go_wp2_with fail
    refine H.mono ?_
    rintro e w1 ⟨rfl, hb1⟩
    go_wp2
    go_ret
    exact ⟨rfl, (hb1.alloc hb1.size _).alloc (by have := hb1.size; simp; omega) _⟩
  | true =>
    rw [hv] at H
    rw [Bool.and_eq_true] at hv
    obtain ⟨a0, a1, a2, a3, rfl, _⟩ := vok_four hv.1
    obtain ⟨b0, b1, b2, b3, rfl, _⟩ := vok_four hv.2
    rw [vecOf_four _ _ _ _ hv.1, vecOf_four _ _ _ _ hv.2] at H
    have M := fun W => meets_any a0 a1 a2 a3 b0 b1 b2 b3 W
    generalize meetB [a0, a1, a2, a3] [b0, b1, b2, b3] = m at M ⊢
    have M' : Hid (∀ W, _) := M
    clear M
    go_enter Try.func18, Try.ntmps18
    go_wp2_with fail
    refine H.mono ?_
    rintro e w1 ⟨rfl, hb1⟩
    go_wp2_with fail
    refine (M'.out _).mono ?_
    rintro e w2 ⟨rfl, hb2⟩
    go_wp2
    go_ret
    exact ⟨rfl, ((hb1.alloc hb1.size _).alloc (by have := hb1.size; simp; omega) _).trans (hb2.mono (by have := hb1.size; simp; omega))⟩

set_option maxHeartbeats 1000000 in
theorem iRefines_any (x y : Value) (l r : List Int) (w : World) (hl : l.length ≤ 4611686018427387904) (hr : r.length ≤ 4611686018427387904) (h : IsI w x l) (k : IsI w y r) :
    Calls Try.prog 17 #[x, y] w fun e w' => e = .returned (.bool (vok l && vok r && refB l r)) ∧ Below w.heap.size w w' := by
  have H := two_any x y l r w hl hr h k
  cases hv : (vok l && vok r) with
  | false =>
    rw [hv] at H
    obtain ⟨p0, p1, p2, p3, hp⟩ := vecOf_form l
    obtain ⟨q0, q1, q2, q3, hq⟩ := vecOf_form r
    rw [hp, hq] at H
    clear hp hq
    go_enter Try.func17, Try.ntmps17
    go_wp2_with fail
    refine H.mono ?_
    rintro e w1 ⟨rfl, hb1⟩
    go_wp2
    go_ret
    exact ⟨rfl, (hb1.alloc hb1.size _).alloc (by have := hb1.size; simp; omega) _⟩
  | true =>
    rw [hv] at H
    rw [Bool.and_eq_true] at hv
    obtain ⟨a0, a1, a2, a3, rfl, _⟩ := vok_four hv.1
    obtain ⟨b0, b1, b2, b3, rfl, _⟩ := vok_four hv.2
    rw [vecOf_four _ _ _ _ hv.1, vecOf_four _ _ _ _ hv.2] at H
    have M := fun W => refines_any a0 a1 a2 a3 b0 b1 b2 b3 W
    generalize refB [a0, a1, a2, a3] [b0, b1, b2, b3] = m at M ⊢
    have M' : Hid (∀ W, _) := M
    clear M
    go_enter Try.func17, Try.ntmps17
    go_wp2_with fail
    refine H.mono ?_
    rintro e w1 ⟨rfl, hb1⟩
    go_wp2_with fail
    refine (M'.out _).mono ?_
    rintro e w2 ⟨rfl, hb2⟩
    go_wp2
    go_ret
    exact ⟨rfl, ((hb1.alloc hb1.size _).alloc (by have := hb1.size; simp; omega) _).trans (hb2.mono (by have := hb1.size; simp; omega))⟩
end Go.Proofs.Ytofbholpggkjcab

/- Vectors: the specification's Meets and Refines. -/
namespace Go.Proofs.Ytofbholpggkjcab
open Go.RowKit
theorem vok_at {l : List Int} (h : vok l = true) (j : Nat) (hj : j < 4) : -1 ≤ intAt l j ∧ intAt l j ≤ 1 := by
  obtain ⟨a, b, c, d, rfl, h0, h1, h2, h3⟩ := vok_four h
  have hj4 : j = 0 ∨ j = 1 ∨ j = 2 ∨ j = 3 := by omega
  rcases hj4 with rfl | rfl | rfl | rfl
  · exact h0
  · exact h1
  · exact h2
  · exact h3
theorem vok_len4 {l : List Int} (h : vok l = true) : l.length = 4 := by
  simp only [vok, Bool.and_eq_true, decide_eq_true_eq] at h; exact h.2
theorem IsI.four {w : World} {x : Value} {l : List Int} (h : IsI w x l) (hl : l.length = 4) : ∃ b off cap, x = .slice (some ⟨b, off, none⟩) 4 cap ∧ IntsAt w b off l := by
  obtain ⟨a, cap, rfl, _, _, h⟩ := h
  obtain ⟨b, off, rfl, h'⟩ := h.resolve_left (by rintro rfl; simp at hl)
  exact ⟨b, off, cap, by rw [hl], h'⟩
end Go.Proofs.Ytofbholpggkjcab

/- toIntS: a row of one's own. -/
namespace Go.Proofs.Ytofbholpggkjcab
open Go.RowKit
/- The block g holds the numbers of l, from its first cell on, and they may be written. -/
def RowI (w : World) (g : Nat) (l : List Int) : Prop := g < w.heap.size ∧ ∀ j, j < l.length → w.cell? ⟨g, j, none⟩ = some (.int .i64 (intAt l j)) ∧ w.frozen? ⟨g, j, none⟩ = false
theorem RowI.below {w w' : World} {B g : Nat} {l : List Int} (h : RowI w g l) (hb : Below B w w') (hB : g < B) : RowI w' g l :=
  ⟨Nat.lt_of_lt_of_le h.1 hb.size, fun j hj => by rw [hb.cell (p := ⟨g, j, none⟩) hB, hb.frozen (p := ⟨g, j, none⟩) hB]; exact h.2 j hj⟩
abbrev sl (g n : Nat) : Value := .slice (some ⟨g, 0, none⟩) n n
theorem RowI.own {w : World} {g : Nat} {l : List Int} (h : RowI w g l) (hl : l.length ≤ maxLen) {B : Nat} (hB : B ≤ g) : OwnI B w (sl g l.length) l :=
  ⟨_, _, rfl, Nat.le_refl _, hl, .inr ⟨g, rfl, hB, fun j hj => (h.2 j hj).2, h.1, fun i hi => by rw [Nat.zero_add]; exact (h.2 i hi).1⟩⟩
theorem RowI.isI {w : World} {g : Nat} {l : List Int} (h : RowI w g l) (hl : l.length ≤ maxLen) : IsI w (sl g l.length) l := (h.own hl (Nat.zero_le _)).isI
theorem RowI.mark {w : World} {g : Nat} {l : List Int} (h : RowI w g l) : MarkTo w g l.length 0 :=
  ⟨h.1, fun j hj => by rw [(h.2 j hj).1]; exact ⟨rfl, (h.2 j hj).2⟩, fun i hi => by omega⟩
/- As far as k it holds them; all n cells may be written. -/
def FillI (w : World) (g n : Nat) (l : List Int) (k : Nat) : Prop := g < w.heap.size ∧ (∀ j, j < n → (w.cell? ⟨g, j, none⟩).isSome = true ∧ w.frozen? ⟨g, j, none⟩ = false) ∧ ∀ i, i < k → w.cell? ⟨g, i, none⟩ = some (.int .i64 (intAt l i))
theorem FillI.row {w : World} {g : Nat} {l : List Int} (h : FillI w g l.length l l.length) : RowI w g l := ⟨h.1, fun j hj => ⟨h.2.2 j hj, (h.2.1 j hj).2⟩⟩
theorem FillI.put {w : World} {g n k : Nat} {l : List Int} (h : FillI w g n l k) (hk : k < n) : FillI (w.setCell ⟨g, k, none⟩ (.int .i64 (intAt l k))) g n l (k + 1) := by
  have e1 : w.setCell ⟨g, k, none⟩ (.int .i64 (intAt l k)) = w.setCells g k [.int .i64 (intAt l k)] := rfl
  have hsame : ∀ j, j ≠ k → (w.setCell ⟨g, k, none⟩ (.int .i64 (intAt l k))).cell? ⟨g, j, none⟩ = w.cell? ⟨g, j, none⟩ := fun j hj => by
    rw [e1]
    exact World.cell?_setCells_out g _ k w ⟨g, j, none⟩ (fun _ _ => by simp; omega)
  have hat : (w.setCell ⟨g, k, none⟩ (.int .i64 (intAt l k))).cell? ⟨g, k, none⟩ = some (.int .i64 (intAt l k)) := by
    rw [e1]
    have h0 := World.cell?_setCells_in g [.int .i64 (intAt l k)] k w (fun j hj => by
      obtain rfl : j = 0 := by simpa using hj
      exact (h.2.1 k hk).1) 0 (by simp)
    simpa using h0
  refine ⟨by simpa using h.1, fun j hj => ?_, fun i hi => ?_⟩
  · refine ⟨?_, ?_⟩
    · by_cases e : j = k
      · subst e; rw [hat]; rfl
      · rw [hsame j e]; exact (h.2.1 j hj).1
    · rw [e1, World.frozen?_setCells]; exact (h.2.1 j hj).2
  · by_cases e : i = k
    · subst e; exact hat
    · rw [hsame i e]; exact h.2.2 i (by omega)
theorem FillI.made {w1 : World} {B : Nat} {z : List Value} {n : Nat} {l : List Int} (h : w1.ownsRow B 3 1 (.slice (some ⟨B, 0, none⟩) n n) n z) : FillI w1 B n l 0 := by
  obtain ⟨hl, h | ⟨g, cap, cur, e, hg, hc, h1, h2, h3, h4⟩⟩ := h
  · simp at h
  · simp at e
    obtain ⟨rfl, rfl⟩ := e
    have hlt : B < w1.heap.size := (Array.getElem?_eq_some_iff.1 hc).1
    refine ⟨hlt, fun j hj => ?_, fun i hi => by omega⟩
    have hj2 : j < cur.size := by omega
    simp [World.cell?, World.frozen?, hc, hj2]
theorem info3 : (Try.prog.info? 3).map (fun i => (i.zero, i.size, i.bytes)) = some (some (.int .i64 0), 1, 8) := by kernel_rfl
theorem info_parts {i : TypeId} {z : Option Value} {s b : Nat} (h : (Try.prog.info? i).map (fun i => (i.zero, i.size, i.bytes)) = some (z, s, b)) : ∃ i0, Try.prog.info? i = some i0 ∧ i0.zero = z ∧ i0.size = s ∧ i0.bytes = b := by
  obtain ⟨i0, h1, h2⟩ := Option.map_eq_some_iff.1 h
  simp only [Prod.mk.injEq] at h2
  exact ⟨i0, h1, h2.1, h2.2.1, h2.2.2⟩
set_option maxHeartbeats 1000000 in
theorem toI_any (x : Value) (l : List Int) (w : World) (hl : l.length ≤ 1048576) (h : IsI w x l) :
    Calls Try.prog 7 #[x] w fun e w' => e = .returned (sl w.heap.size l.length) ∧ Below w.heap.size w w' ∧ RowI w' w.heap.size l := by
  obtain ⟨a, cap, rfl, h1, h2, h⟩ := h
  rcases h with rfl | ⟨b, off, rfl, hb, h⟩
  · obtain ⟨i0, hi, hz0, hz1, hz2⟩ := info_parts info3
    go_enter Try.func7, Try.ntmps7
    go_wp2_with (at_make; refine wpList_make_full _ rfl _ _ 22 rfl w.heap.size 3 i0 _ 1 Try.underlying22 hi hz0 hz1 .i64 .i64 0 0 0 rfl rfl rfl rfl (by rw [hz2]; omega) (by unfold maxLen; omega) (Nat.le_refl _) ?_; intro w1 hown hgrow)
    have hB1 : Below w.heap.size w w1 := (Below.refl _ _).grown hgrow (Nat.le_refl _) (fun k e => by cases e)
    have hR1 : RowI w1 w.heap.size [] := (FillI.made (n := 0) (l := []) hown).row
    clear hown hgrow hi hz0 hz1 hz2
    go_loop [4] (fun i => i = .int .i64 0) (fun _ => 0)
    case atStart => rfl
    case round =>
      subst hrel
      go_wp2
      go_ret
      exact ⟨rfl, hB1, hR1⟩
  · have hp : (0 : Int) ≤ (l.length : Int) := by omega
    obtain ⟨i0, hi, hz0, hz1, hz2⟩ := info_parts info3
    go_enter Try.func7, Try.ntmps7
    go_wp2_with (at_make; refine wpList_make_full _ rfl _ _ 22 rfl w.heap.size 3 i0 _ 1 Try.underlying22 hi hz0 hz1 .i64 .i64 l.length l.length l.length rfl rfl rfl rfl (by rw [hz2]; omega) (by unfold maxLen; omega) (Nat.le_refl _) ?_; intro w1 hown hgrow)
    have hB1 : Below w.heap.size w w1 := (Below.refl _ _).grown hgrow (Nat.le_refl _) (fun k e => by cases e)
    have hR1 : FillI w1 w.heap.size l.length l 0 := FillI.made hown
    clear hown hgrow hi hz0 hz1 hz2
    go_loopw [4] (fun i wr => ∃ k : Nat, k ≤ l.length ∧ i = .int .i64 k ∧ Below w.heap.size w wr ∧ FillI wr w.heap.size l.length l k) (fun i _ => l.length - (intOf i).toNat)
    case atStart => exact ⟨0, Nat.zero_le _, rfl, hB1, hR1⟩
    case round =>
      obtain ⟨k, hk, rfl, hB, hR⟩ := hrel
      have HB : Hid (Below w.heap.size w wr) := hB
      have HR : Hid (FillI wr w.heap.size l.length l k) := hR
      by_cases hlt : k < l.length
      · have f0 := (hB.cell (p := ⟨b, off + k, none⟩) hb).trans (h k hlt)
        obtain ⟨v, hv⟩ := Option.isSome_iff_exists.1 (hR.2.1 k hlt).1
        have hf := (hR.2.1 k hlt).2
        clear hB hR hB1 hR1 h
        go_wp2
        go_roundw
        case rel => exact ⟨k + 1, by omega, by go_num, HB.out.setCell (Nat.le_refl _) _, HR.out.put hlt⟩
        case measure => simp [intOf]; omega
      · clear hB hR hB1 hR1 h
        go_wp2
        go_ret
        obtain rfl : k = l.length := by omega
        exact ⟨rfl, HB.out, HR.out.row⟩
end Go.Proofs.Ytofbholpggkjcab

/- Rows of numbers: what stays where another row turns. -/
namespace Go.Proofs.Ytofbholpggkjcab
open Go.RowKit
/- As IsI, in a block below B. -/
def LowI (B : Nat) (w : World) (x : Value) (l : List Int) : Prop := ∃ a cap, x = .slice a l.length cap ∧ l.length ≤ cap ∧ cap ≤ maxLen ∧ (l = [] ∨ ∃ b off, a = some ⟨b, off, none⟩ ∧ b < B ∧ IntsAt w b off l)
theorem LowI.isI {B : Nat} {w : World} {x : Value} {l : List Int} (h : LowI B w x l) : IsI w x l := by
  obtain ⟨a, cap, rfl, h1, h2, h⟩ := h
  exact ⟨a, cap, rfl, h1, h2, h.imp id (fun ⟨b, off, e, _, h⟩ => ⟨b, off, e, h⟩)⟩
theorem IsI.low {w : World} {x : Value} {l : List Int} (h : IsI w x l) : LowI w.heap.size w x l := by
  obtain ⟨a, cap, rfl, h1, h2, h⟩ := h
  exact ⟨a, cap, rfl, h1, h2, h.imp id (fun ⟨b, off, e, h⟩ => ⟨b, off, e, h.1, h⟩)⟩
theorem LowI.below {B : Nat} {w w' : World} {x : Value} {l : List Int} (h : LowI B w x l) (hb : Below B w w') : LowI B w' x l := by
  obtain ⟨a, cap, rfl, h1, h2, h⟩ := h
  exact ⟨a, cap, rfl, h1, h2, h.imp id (fun ⟨b, off, e, hB, h⟩ => ⟨b, off, e, hB, h.below hb hB⟩)⟩
theorem OwnI.other {B g : Nat} {w w' : World} {x : Value} {l : List Int} (h : OwnI B w x l) (hg : g < B) (hgr : w.grownBy w' (some g)) : OwnI B w' x l := by
  obtain ⟨a, cap, rfl, h1, h2, h⟩ := h
  refine ⟨a, cap, rfl, h1, h2, h.imp id ?_⟩
  rintro ⟨b, rfl, hB, hf, hr⟩
  have hk : w'.heap[b]? = w.heap[b]? := hgr.block b hr.1 (by intro e; have := Option.some.inj e; omega)
  have hc : ∀ o, w'.cell? ⟨b, o, none⟩ = w.cell? ⟨b, o, none⟩ := fun o => World.cell?_of_block (w := w) hk
  have hz : ∀ o, w'.frozen? ⟨b, o, none⟩ = w.frozen? ⟨b, o, none⟩ := fun o => World.frozen?_of_block (w := w) hk
  exact ⟨b, rfl, hB, fun j hj => (hz j).trans (hf j hj), Nat.lt_of_lt_of_le hr.1 hgr.size, fun i hi => (hc _).trans (hr.2 i hi)⟩
/- An answer: a list of one's own and a flag. -/
def AnsI (B : Nat) (r : List Int) (b : Bool) (e : Ending) (w' : World) : Prop := ∃ v, e = .returned (.tuple #[v, .bool b]) ∧ OwnI B w' v r
end Go.Proofs.Ytofbholpggkjcab

