/- VBox, VTwo -/
import Derived.Test.YtnlhcdchmgfipaaGreatExactWorldOkG31
/- Vectors: an array of four numbers in a block of its own. -/
namespace Go.Proofs.YtnlhcdchmgfipaaGreat
open Go.RowKit
def V4 (w : World) (g : Nat) (a b c d : Int) : Prop := w.heap[g]? = some (cell4 a b c d)
theorem V4.new (w : World) (a b c d : Int) : V4 (w.alloc (cell4 a b c d)) w.heap.size a b c d := by
 show (w.heap.push _)[w.heap.size]? = _
 simp
theorem V4.keep {w w' : World} {B g : Nat} {a b c d : Int} (h : V4 w g a b c d) (hb : Below B w w') (hg : g < B) : V4 w' g a b c d := (hb.block g hg).trans h
theorem V4.lt {w : World} {g : Nat} {a b c d : Int} (h : V4 w g a b c d) : g < w.heap.size := (Array.getElem?_eq_some_iff.1 h).1
theorem V4.alloc {w : World} {g : Nat} {a b c d : Int} (h : V4 w g a b c d) (o : Obj) : V4 (w.alloc o) g a b c d := h.keep ((Below.refl w.heap.size w).alloc (Nat.le_refl _) o) h.lt
theorem V4.cells {w : World} {g : Nat} {a b c d : Int} (h : V4 w g a b c d) :
  w.cell? ⟨g, 0, none⟩ = some (.int .i64 a) ∧ w.cell? ⟨g, 1, none⟩ = some (.int .i64 b) ∧ w.cell? ⟨g, 2, none⟩ = some (.int .i64 c) ∧ w.cell? ⟨g, 3, none⟩ = some (.int .i64 d) ∧ (∀ o, w.frozen? ⟨g, o, none⟩ = false) := by
 have h' : w.heap[g]? = some (.cells #[i64 a, i64 b, i64 c, i64 d] 118) := h
 refine ⟨?_, ?_, ?_, ?_, fun o => ?_⟩
 ·unfold World.cell?; simp only [h']; rfl
 ·unfold World.cell?; simp only [h']; rfl
 ·unfold World.cell?; simp only [h']; rfl
 ·unfold World.cell?; simp only [h']; rfl
 ·unfold World.frozen?; simp only [h']; simp
abbrev put4 (w : World) (g : Nat) (a b c d : Int) : World := (((w.setCell ⟨g, 0, none⟩ (.int .i64 a)).setCell ⟨g, 1, none⟩ (.int .i64 b)).setCell ⟨g, 2, none⟩ (.int .i64 c)).setCell ⟨g, 3, none⟩ (.int .i64 d)
theorem put4_below {B : Nat} {a w : World} (h : Below B a w) {g : Nat} (hg : B ≤ g) (x0 x1 x2 x3 : Int) : Below B a (put4 w g x0 x1 x2 x3) :=
 (((h.setCell (p := ⟨g, 0, none⟩) hg _).setCell (p := ⟨g, 1, none⟩) hg _).setCell (p := ⟨g, 2, none⟩) hg _).setCell (p := ⟨g, 3, none⟩) hg _
theorem V4.put {w : World} {g : Nat} {a b c d : Int} (h : V4 w g a b c d) (x0 x1 x2 x3 : Int) : V4 (put4 w g x0 x1 x2 x3) g x0 x1 x2 x3 := by
 have h' : w.heap[g]? = some (.cells #[i64 a, i64 b, i64 c, i64 d] 118) := h
 obtain ⟨hl, hv⟩ := Array.getElem?_eq_some_iff.1 h'
 unfold V4 put4
 simp [World.setCell, hl, Array.getElem_modify, hv]
theorem V4.other {w : World} {g k : Nat} {a b c d : Int} (h : V4 w g a b c d) (hk : g ≠ k) (x0 x1 x2 x3 : Int) : V4 (put4 w k x0 x1 x2 x3) g a b c d := by
 have e : (put4 w k x0 x1 x2 x3).heap[g]? = w.heap[g]? := by
  unfold put4
  rw [Below.heap_setCell _ _ _ _ hk, Below.heap_setCell _ _ _ _ hk, Below.heap_setCell _ _ _ _ hk, Below.heap_setCell _ _ _ _ hk]
 exact e.trans h
end Go.Proofs.YtnlhcdchmgfipaaGreat
/- Vectors: the program's vectorsOf, Meets, Refines. -/
namespace Go.Proofs.YtnlhcdchmgfipaaGreat
open Go.RowKit
theorem vecOf_form (l : List Int) : ∃ a b c d : Int, vecOf l = vec a b c d := by
 unfold vecOf; split
 ·exact ⟨_, _, _, _, rfl⟩
 ·exact ⟨0, 0, 0, 0, rfl⟩
theorem vecOf_four (a b c d : Int) (h : vok [a, b, c, d] = true) : vecOf [a, b, c, d] = vec a b c d := by simp [vecOf, h, intAt]
set_option maxHeartbeats 4000000 in
theorem two_any (x y : Value) (l r : List Int) (w : World) (hl : l.length ≤ 4611686018427387904) (hr : r.length ≤ 4611686018427387904) (h : IsI w x l) (k : IsI w y r) :
  Calls Tryz.prog 105 #[x, y] w fun e w' => e = .returned (.tuple #[vecOf l, vecOf r, .bool (vok l && vok r)]) ∧ Below w.heap.size w w' := by
 obtain ⟨p0, p1, p2, p3, hp⟩ := vecOf_form l
 obtain ⟨q0, q1, q2, q3, hq⟩ := vecOf_form r
 have H : Hid (∀ w', Below w.heap.size w w' → Calls Tryz.prog 123 #[x] w' fun e w'' => e = .returned (.tuple #[vec p0 p1 p2 p3, .bool (vok l)]) ∧ Below w'.heap.size w' w'') := fun w' hb => hp ▸ of_any x l w' hl (h.below hb)
 have K : Hid (∀ w', Below w.heap.size w w' → Calls Tryz.prog 123 #[y] w' fun e w'' => e = .returned (.tuple #[vec q0 q1 q2 q3, .bool (vok r)]) ∧ Below w'.heap.size w' w'') := fun w' hb => hq ▸ of_any y r w' hr (k.below hb)
 rw [hp, hq]
 generalize vok l = b at H ⊢
 generalize vok r = d at K ⊢
 clear hp hq h k hl hr
 have hB0 : Below w.heap.size w ((w.alloc (cell4 0 0 0 0)).alloc (cell4 0 0 0 0)) := ((Below.refl _ w).alloc (Nat.le_refl _) _).alloc (by simp) _
 have hV0 : V4 ((w.alloc (cell4 0 0 0 0)).alloc (cell4 0 0 0 0)) w.heap.size 0 0 0 0 := (V4.new w 0 0 0 0).alloc _
 have hV1 : V4 ((w.alloc (cell4 0 0 0 0)).alloc (cell4 0 0 0 0)) (w.heap.size + 1) 0 0 0 0 := by have := V4.new (w.alloc (cell4 0 0 0 0)) 0 0 0 0; rwa [show (w.alloc (cell4 0 0 0 0)).heap.size = w.heap.size + 1 by simp] at this
 have HB0 : Hid (Below w.heap.size w ((w.alloc (cell4 0 0 0 0)).alloc (cell4 0 0 0 0))) := hB0
 have HV0 : Hid (V4 ((w.alloc (cell4 0 0 0 0)).alloc (cell4 0 0 0 0)) w.heap.size 0 0 0 0) := hV0
 have HV1 : Hid (V4 ((w.alloc (cell4 0 0 0 0)).alloc (cell4 0 0 0 0)) (w.heap.size + 1) 0 0 0 0) := hV1
 clear hB0 hV0 hV1
 cases b <;> cases d
 ·go_enter Tryz.func105, Tryz.ntmps105
  go_wp2_with fail
  refine (H.out _ HB0.out).mono ?_
  rintro e w1 ⟨rfl, hb1⟩
  have HB1 : Hid (Below w.heap.size w (w1.alloc (cell4 p0 p1 p2 p3))) := (HB0.out.trans (hb1.mono HB0.out.size)).alloc (by have := HB0.out.size; have := hb1.size; omega) _
  have HV2 : Hid (V4 (w1.alloc (cell4 p0 p1 p2 p3)) w.heap.size 0 0 0 0) := (HV0.out.keep hb1 HV0.out.lt).alloc _
  have HV3 : Hid (V4 (w1.alloc (cell4 p0 p1 p2 p3)) (w.heap.size + 1) 0 0 0 0) := (HV1.out.keep hb1 HV1.out.lt).alloc _
  have HV4 : Hid (V4 (w1.alloc (cell4 p0 p1 p2 p3)) w1.heap.size p0 p1 p2 p3) := V4.new _ _ _ _ _
  have hz1 : w.heap.size + 1 < w1.heap.size := Nat.lt_of_lt_of_le HV1.out.lt hb1.size
  clear hb1 HB0 HV0 HV1 H
  go_wp2_with fail
  refine (K.out _ HB1.out).mono ?_
  rintro e w2 ⟨rfl, hb2⟩
  have HB2 : Hid (Below w.heap.size w (w2.alloc (cell4 q0 q1 q2 q3))) := (HB1.out.trans (hb2.mono HB1.out.size)).alloc (by have := HB1.out.size; have := hb2.size; omega) _
  have hV5 := (HV2.out.keep hb2 HV2.out.lt).alloc (cell4 q0 q1 q2 q3)
  have hV6 := (HV3.out.keep hb2 HV3.out.lt).alloc (cell4 q0 q1 q2 q3)
  have hV7 := (HV4.out.keep hb2 HV4.out.lt).alloc (cell4 q0 q1 q2 q3)
  have hV8 := V4.new w2 q0 q1 q2 q3
  have hz2 : w1.heap.size < w2.heap.size := Nat.lt_of_lt_of_le HV4.out.lt hb2.size
  clear hb2 HB1 HV2 HV3 HV4 K
  go_wp2_with fail
  generalize w2.alloc (cell4 q0 q1 q2 q3) = W at HB2 hV5 hV6 hV7 hV8 ⊢
  have HV5 : Hid (V4 W w.heap.size 0 0 0 0) := hV5
  have HV6 : Hid (V4 W (w.heap.size + 1) 0 0 0 0) := hV6
  obtain ⟨f0, f1, f2, f3, fz⟩ := hV5.cells
  obtain ⟨g0, g1, g2, g3, gz⟩ := hV6.cells
  obtain ⟨h0, h1, h2, h3, _⟩ := hV7.cells
  obtain ⟨k0, k1, k2, k3, _⟩ := hV8.cells
  clear hV5 hV6 hV7 hV8
  go_big_region
  clear f0 f1 f2 f3 fz g0 g1 g2 g3 gz h0 h1 h2 h3 k0 k1 k2 k3
  have hW : ∀ X : World, X = put4 (put4 W w.heap.size p0 p1 p2 p3) (w.heap.size + 1) q0 q1 q2 q3 → V4 X w.heap.size p0 p1 p2 p3 ∧ V4 X (w.heap.size + 1) q0 q1 q2 q3 ∧ Below w.heap.size w X := fun X h => by
   rw [h]
   exact ⟨(HV5.out.put p0 p1 p2 p3).other (by omega) _ _ _ _, (HV6.out.other (by omega) _ _ _ _).put _ _ _ _, put4_below (put4_below HB2.out (Nat.le_refl _) _ _ _ _) (by omega) _ _ _ _⟩
  generalize hG : (((((((W.setCell ⟨w.heap.size, 0, none⟩ (.int .i64 p0)).setCell ⟨w.heap.size, 1, none⟩ (.int .i64 p1)).setCell ⟨w.heap.size, 2, none⟩ (.int .i64 p2)).setCell ⟨w.heap.size, 3, none⟩ (.int .i64 p3)).setCell ⟨w.heap.size + 1, 0, none⟩ (.int .i64 q0)).setCell ⟨w.heap.size + 1, 1, none⟩ (.int .i64 q1)).setCell ⟨w.heap.size + 1, 2, none⟩ (.int .i64 q2)).setCell ⟨w.heap.size + 1, 3, none⟩ (.int .i64 q3) = X
  obtain ⟨hX, hY, hB⟩ := hW X hG.symm
  obtain ⟨f0, f1, f2, f3, fz⟩ := hX.cells
  obtain ⟨g0, g1, g2, g3, gz⟩ := hY.cells
  clear hW hG hX hY
  go_wp2
  exact bodyPost_ret (v := .tuple #[vec p0 p1 p2 p3, vec q0 q1 q2 q3, .bool false]) (by simp [results, Tryz.results105, go_sem, f0, f1, f2, f3, g0, g1, g2, g3]) rfl ⟨rfl, hB.drew⟩
 ·go_enter Tryz.func105, Tryz.ntmps105
  go_wp2_with fail
  refine (H.out _ HB0.out).mono ?_
  rintro e w1 ⟨rfl, hb1⟩
  have HB1 : Hid (Below w.heap.size w (w1.alloc (cell4 p0 p1 p2 p3))) := (HB0.out.trans (hb1.mono HB0.out.size)).alloc (by have := HB0.out.size; have := hb1.size; omega) _
  have HV2 : Hid (V4 (w1.alloc (cell4 p0 p1 p2 p3)) w.heap.size 0 0 0 0) := (HV0.out.keep hb1 HV0.out.lt).alloc _
  have HV3 : Hid (V4 (w1.alloc (cell4 p0 p1 p2 p3)) (w.heap.size + 1) 0 0 0 0) := (HV1.out.keep hb1 HV1.out.lt).alloc _
  have HV4 : Hid (V4 (w1.alloc (cell4 p0 p1 p2 p3)) w1.heap.size p0 p1 p2 p3) := V4.new _ _ _ _ _
  have hz1 : w.heap.size + 1 < w1.heap.size := Nat.lt_of_lt_of_le HV1.out.lt hb1.size
  clear hb1 HB0 HV0 HV1 H
  go_wp2_with fail
  refine (K.out _ HB1.out).mono ?_
  rintro e w2 ⟨rfl, hb2⟩
  have HB2 : Hid (Below w.heap.size w (w2.alloc (cell4 q0 q1 q2 q3))) := (HB1.out.trans (hb2.mono HB1.out.size)).alloc (by have := HB1.out.size; have := hb2.size; omega) _
  have hV5 := (HV2.out.keep hb2 HV2.out.lt).alloc (cell4 q0 q1 q2 q3)
  have hV6 := (HV3.out.keep hb2 HV3.out.lt).alloc (cell4 q0 q1 q2 q3)
  have hV7 := (HV4.out.keep hb2 HV4.out.lt).alloc (cell4 q0 q1 q2 q3)
  have hV8 := V4.new w2 q0 q1 q2 q3
  have hz2 : w1.heap.size < w2.heap.size := Nat.lt_of_lt_of_le HV4.out.lt hb2.size
  clear hb2 HB1 HV2 HV3 HV4 K
  go_wp2_with fail
  generalize w2.alloc (cell4 q0 q1 q2 q3) = W at HB2 hV5 hV6 hV7 hV8 ⊢
  have HV5 : Hid (V4 W w.heap.size 0 0 0 0) := hV5
  have HV6 : Hid (V4 W (w.heap.size + 1) 0 0 0 0) := hV6
  obtain ⟨f0, f1, f2, f3, fz⟩ := hV5.cells
  obtain ⟨g0, g1, g2, g3, gz⟩ := hV6.cells
  obtain ⟨h0, h1, h2, h3, _⟩ := hV7.cells
  obtain ⟨k0, k1, k2, k3, _⟩ := hV8.cells
  clear hV5 hV6 hV7 hV8
  go_big_region
  clear f0 f1 f2 f3 fz g0 g1 g2 g3 gz h0 h1 h2 h3 k0 k1 k2 k3
  have hW : ∀ X : World, X = put4 (put4 W w.heap.size p0 p1 p2 p3) (w.heap.size + 1) q0 q1 q2 q3 → V4 X w.heap.size p0 p1 p2 p3 ∧ V4 X (w.heap.size + 1) q0 q1 q2 q3 ∧ Below w.heap.size w X := fun X h => by
   rw [h]
   exact ⟨(HV5.out.put p0 p1 p2 p3).other (by omega) _ _ _ _, (HV6.out.other (by omega) _ _ _ _).put _ _ _ _, put4_below (put4_below HB2.out (Nat.le_refl _) _ _ _ _) (by omega) _ _ _ _⟩
  generalize hG : (((((((W.setCell ⟨w.heap.size, 0, none⟩ (.int .i64 p0)).setCell ⟨w.heap.size, 1, none⟩ (.int .i64 p1)).setCell ⟨w.heap.size, 2, none⟩ (.int .i64 p2)).setCell ⟨w.heap.size, 3, none⟩ (.int .i64 p3)).setCell ⟨w.heap.size + 1, 0, none⟩ (.int .i64 q0)).setCell ⟨w.heap.size + 1, 1, none⟩ (.int .i64 q1)).setCell ⟨w.heap.size + 1, 2, none⟩ (.int .i64 q2)).setCell ⟨w.heap.size + 1, 3, none⟩ (.int .i64 q3) = X
  obtain ⟨hX, hY, hB⟩ := hW X hG.symm
  obtain ⟨f0, f1, f2, f3, fz⟩ := hX.cells
  obtain ⟨g0, g1, g2, g3, gz⟩ := hY.cells
  clear hW hG hX hY
  go_wp2
  exact bodyPost_ret (v := .tuple #[vec p0 p1 p2 p3, vec q0 q1 q2 q3, .bool false]) (by simp [results, Tryz.results105, go_sem, f0, f1, f2, f3, g0, g1, g2, g3]) rfl ⟨rfl, hB.drew⟩
 ·go_enter Tryz.func105, Tryz.ntmps105
  go_wp2_with fail
  refine (H.out _ HB0.out).mono ?_
  rintro e w1 ⟨rfl, hb1⟩
  have HB1 : Hid (Below w.heap.size w (w1.alloc (cell4 p0 p1 p2 p3))) := (HB0.out.trans (hb1.mono HB0.out.size)).alloc (by have := HB0.out.size; have := hb1.size; omega) _
  have HV2 : Hid (V4 (w1.alloc (cell4 p0 p1 p2 p3)) w.heap.size 0 0 0 0) := (HV0.out.keep hb1 HV0.out.lt).alloc _
  have HV3 : Hid (V4 (w1.alloc (cell4 p0 p1 p2 p3)) (w.heap.size + 1) 0 0 0 0) := (HV1.out.keep hb1 HV1.out.lt).alloc _
  have HV4 : Hid (V4 (w1.alloc (cell4 p0 p1 p2 p3)) w1.heap.size p0 p1 p2 p3) := V4.new _ _ _ _ _
  have hz1 : w.heap.size + 1 < w1.heap.size := Nat.lt_of_lt_of_le HV1.out.lt hb1.size
  clear hb1 HB0 HV0 HV1 H
  go_wp2_with fail
  refine (K.out _ HB1.out).mono ?_
  rintro e w2 ⟨rfl, hb2⟩
  have HB2 : Hid (Below w.heap.size w (w2.alloc (cell4 q0 q1 q2 q3))) := (HB1.out.trans (hb2.mono HB1.out.size)).alloc (by have := HB1.out.size; have := hb2.size; omega) _
  have hV5 := (HV2.out.keep hb2 HV2.out.lt).alloc (cell4 q0 q1 q2 q3)
  have hV6 := (HV3.out.keep hb2 HV3.out.lt).alloc (cell4 q0 q1 q2 q3)
  have hV7 := (HV4.out.keep hb2 HV4.out.lt).alloc (cell4 q0 q1 q2 q3)
  have hV8 := V4.new w2 q0 q1 q2 q3
  have hz2 : w1.heap.size < w2.heap.size := Nat.lt_of_lt_of_le HV4.out.lt hb2.size
  clear hb2 HB1 HV2 HV3 HV4 K
  go_wp2_with fail
  generalize w2.alloc (cell4 q0 q1 q2 q3) = W at HB2 hV5 hV6 hV7 hV8 ⊢
  have HV5 : Hid (V4 W w.heap.size 0 0 0 0) := hV5
  have HV6 : Hid (V4 W (w.heap.size + 1) 0 0 0 0) := hV6
  obtain ⟨f0, f1, f2, f3, fz⟩ := hV5.cells
  obtain ⟨g0, g1, g2, g3, gz⟩ := hV6.cells
  obtain ⟨h0, h1, h2, h3, _⟩ := hV7.cells
  obtain ⟨k0, k1, k2, k3, _⟩ := hV8.cells
  clear hV5 hV6 hV7 hV8
  go_big_region
  clear f0 f1 f2 f3 fz g0 g1 g2 g3 gz h0 h1 h2 h3 k0 k1 k2 k3
  have hW : ∀ X : World, X = put4 (put4 W w.heap.size p0 p1 p2 p3) (w.heap.size + 1) q0 q1 q2 q3 → V4 X w.heap.size p0 p1 p2 p3 ∧ V4 X (w.heap.size + 1) q0 q1 q2 q3 ∧ Below w.heap.size w X := fun X h => by
   rw [h]
   exact ⟨(HV5.out.put p0 p1 p2 p3).other (by omega) _ _ _ _, (HV6.out.other (by omega) _ _ _ _).put _ _ _ _, put4_below (put4_below HB2.out (Nat.le_refl _) _ _ _ _) (by omega) _ _ _ _⟩
  generalize hG : (((((((W.setCell ⟨w.heap.size, 0, none⟩ (.int .i64 p0)).setCell ⟨w.heap.size, 1, none⟩ (.int .i64 p1)).setCell ⟨w.heap.size, 2, none⟩ (.int .i64 p2)).setCell ⟨w.heap.size, 3, none⟩ (.int .i64 p3)).setCell ⟨w.heap.size + 1, 0, none⟩ (.int .i64 q0)).setCell ⟨w.heap.size + 1, 1, none⟩ (.int .i64 q1)).setCell ⟨w.heap.size + 1, 2, none⟩ (.int .i64 q2)).setCell ⟨w.heap.size + 1, 3, none⟩ (.int .i64 q3) = X
  obtain ⟨hX, hY, hB⟩ := hW X hG.symm
  obtain ⟨f0, f1, f2, f3, fz⟩ := hX.cells
  obtain ⟨g0, g1, g2, g3, gz⟩ := hY.cells
  clear hW hG hX hY
  go_wp2
  exact bodyPost_ret (v := .tuple #[vec p0 p1 p2 p3, vec q0 q1 q2 q3, .bool false]) (by simp [results, Tryz.results105, go_sem, f0, f1, f2, f3, g0, g1, g2, g3]) rfl ⟨rfl, hB.drew⟩
 ·go_enter Tryz.func105, Tryz.ntmps105
  go_wp2_with fail
  refine (H.out _ HB0.out).mono ?_
  rintro e w1 ⟨rfl, hb1⟩
  have HB1 : Hid (Below w.heap.size w (w1.alloc (cell4 p0 p1 p2 p3))) := (HB0.out.trans (hb1.mono HB0.out.size)).alloc (by have := HB0.out.size; have := hb1.size; omega) _
  have HV2 : Hid (V4 (w1.alloc (cell4 p0 p1 p2 p3)) w.heap.size 0 0 0 0) := (HV0.out.keep hb1 HV0.out.lt).alloc _
  have HV3 : Hid (V4 (w1.alloc (cell4 p0 p1 p2 p3)) (w.heap.size + 1) 0 0 0 0) := (HV1.out.keep hb1 HV1.out.lt).alloc _
  have HV4 : Hid (V4 (w1.alloc (cell4 p0 p1 p2 p3)) w1.heap.size p0 p1 p2 p3) := V4.new _ _ _ _ _
  have hz1 : w.heap.size + 1 < w1.heap.size := Nat.lt_of_lt_of_le HV1.out.lt hb1.size
  clear hb1 HB0 HV0 HV1 H
  go_wp2_with fail
  refine (K.out _ HB1.out).mono ?_
  rintro e w2 ⟨rfl, hb2⟩
  have HB2 : Hid (Below w.heap.size w (w2.alloc (cell4 q0 q1 q2 q3))) := (HB1.out.trans (hb2.mono HB1.out.size)).alloc (by have := HB1.out.size; have := hb2.size; omega) _
  have hV5 := (HV2.out.keep hb2 HV2.out.lt).alloc (cell4 q0 q1 q2 q3)
  have hV6 := (HV3.out.keep hb2 HV3.out.lt).alloc (cell4 q0 q1 q2 q3)
  have hV7 := (HV4.out.keep hb2 HV4.out.lt).alloc (cell4 q0 q1 q2 q3)
  have hV8 := V4.new w2 q0 q1 q2 q3
  have hz2 : w1.heap.size < w2.heap.size := Nat.lt_of_lt_of_le HV4.out.lt hb2.size
  clear hb2 HB1 HV2 HV3 HV4 K
  go_wp2_with fail
  generalize w2.alloc (cell4 q0 q1 q2 q3) = W at HB2 hV5 hV6 hV7 hV8 ⊢
  have HV5 : Hid (V4 W w.heap.size 0 0 0 0) := hV5
  have HV6 : Hid (V4 W (w.heap.size + 1) 0 0 0 0) := hV6
  obtain ⟨f0, f1, f2, f3, fz⟩ := hV5.cells
  obtain ⟨g0, g1, g2, g3, gz⟩ := hV6.cells
  obtain ⟨h0, h1, h2, h3, _⟩ := hV7.cells
  obtain ⟨k0, k1, k2, k3, _⟩ := hV8.cells
  clear hV5 hV6 hV7 hV8
  go_big_region
  clear f0 f1 f2 f3 fz g0 g1 g2 g3 gz h0 h1 h2 h3 k0 k1 k2 k3
  have hW : ∀ X : World, X = put4 (put4 W w.heap.size p0 p1 p2 p3) (w.heap.size + 1) q0 q1 q2 q3 → V4 X w.heap.size p0 p1 p2 p3 ∧ V4 X (w.heap.size + 1) q0 q1 q2 q3 ∧ Below w.heap.size w X := fun X h => by
   rw [h]
   exact ⟨(HV5.out.put p0 p1 p2 p3).other (by omega) _ _ _ _, (HV6.out.other (by omega) _ _ _ _).put _ _ _ _, put4_below (put4_below HB2.out (Nat.le_refl _) _ _ _ _) (by omega) _ _ _ _⟩
  generalize hG : (((((((W.setCell ⟨w.heap.size, 0, none⟩ (.int .i64 p0)).setCell ⟨w.heap.size, 1, none⟩ (.int .i64 p1)).setCell ⟨w.heap.size, 2, none⟩ (.int .i64 p2)).setCell ⟨w.heap.size, 3, none⟩ (.int .i64 p3)).setCell ⟨w.heap.size + 1, 0, none⟩ (.int .i64 q0)).setCell ⟨w.heap.size + 1, 1, none⟩ (.int .i64 q1)).setCell ⟨w.heap.size + 1, 2, none⟩ (.int .i64 q2)).setCell ⟨w.heap.size + 1, 3, none⟩ (.int .i64 q3) = X
  obtain ⟨hX, hY, hB⟩ := hW X hG.symm
  obtain ⟨f0, f1, f2, f3, fz⟩ := hX.cells
  obtain ⟨g0, g1, g2, g3, gz⟩ := hY.cells
  clear hW hG hX hY
  go_wp2
  exact bodyPost_ret (v := .tuple #[vec p0 p1 p2 p3, vec q0 q1 q2 q3, .bool true]) (by simp [results, Tryz.results105, go_sem, f0, f1, f2, f3, g0, g1, g2, g3]) rfl ⟨rfl, hB.drew⟩
end Go.Proofs.YtnlhcdchmgfipaaGreat
