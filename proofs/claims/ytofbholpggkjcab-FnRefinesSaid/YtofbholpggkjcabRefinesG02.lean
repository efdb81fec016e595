/- VMeet, VBox -/
import Derived.Test.YtofbholpggkjcabRefinesG01
/- Vectors: the program's meets and refines, the specification's l6meet. -/
namespace Go.Proofs.Ytofbholpggkjcab
open Go.RowKit
/- Two numbers that may be of one run. -/
def mB (a b : Int) : Bool := decide (a = -1) || decide (b = -1) || decide (a = b)
def rB (a b : Int) : Bool := decide (b = -1) || decide (a = b)
def meetB (l r : List Int) : Bool := (List.range 4).all fun j => mB (intAt l j) (intAt r j)
def refB (l r : List Int) : Bool := (List.range 4).all fun j => rB (intAt l j) (intAt r j)
theorem all4_yes {f : Nat → Bool} (h : ∀ j, j < 4 → f j = true) : (List.range 4).all f = true := by
  rw [List.all_eq_true]; intro x hx; exact h x (by simpa using hx)
theorem all4_no {f : Nat → Bool} {j : Nat} (hj : j < 4) (h : f j = false) : (List.range 4).all f = false := by
  rw [List.all_eq_false]; exact ⟨j, by simpa using hj, by simp [h]⟩
theorem ints_alloc (w : World) (a b c d : Int) (t : TypeId) : IntsAt (w.alloc (.cells #[i64 a, i64 b, i64 c, i64 d] t)) w.heap.size 0 [a, b, c, d] := by
  refine ⟨by simp, fun i hi => ?_⟩
  have hi4 : i = 0 ∨ i = 1 ∨ i = 2 ∨ i = 3 := by simp at hi; omega
  have hh : (w.alloc (.cells #[i64 a, i64 b, i64 c, i64 d] t)).heap[w.heap.size]? = some (.cells #[i64 a, i64 b, i64 c, i64 d] t) := by
    show (w.heap.push _)[w.heap.size]? = _
    simp
  rcases hi4 with rfl | rfl | rfl | rfl <;> (unfold World.cell?; simp only [hh]; rfl)

set_option maxHeartbeats 4000000 in
theorem meets_any (a0 a1 a2 a3 b0 b1 b2 b3 : Int) (w : World) :
    Calls Try.prog 29 #[vec a0 a1 a2 a3, vec b0 b1 b2 b3] w fun e w' => e = .returned (.bool (meetB [a0, a1, a2, a3] [b0, b1, b2, b3])) ∧ Below w.heap.size w w' := by
  go_enter Try.func29, Try.ntmps29
  go_wp2
  go_loopw [6] (fun i wr => ∃ k : Nat, k ≤ 4 ∧ i = .int .i64 k ∧ Below w.heap.size w wr ∧ IntsAt wr w.heap.size 0 [a0, a1, a2, a3] ∧ IntsAt wr (w.heap.size + 1) 0 [b0, b1, b2, b3] ∧ ∀ j, j < k → mB (intAt [a0, a1, a2, a3] j) (intAt [b0, b1, b2, b3] j) = true) (fun i _ => 4 - (intOf i).toNat)
  case atStart =>
    have h1 := ints_alloc w a0 a1 a2 a3 37
    have h2 := ints_alloc (w.alloc (cell4 a0 a1 a2 a3)) b0 b1 b2 b3 37
    rw [show (w.alloc (cell4 a0 a1 a2 a3)).heap.size = w.heap.size + 1 by simp] at h2
    refine ⟨0, by omega, rfl, ((Below.refl _ w).alloc (Nat.le_refl _) _).alloc (by simp) _, h1.below ((Below.refl (w.heap.size + 1) _).alloc (by simp) _) (by omega), h2, fun j hj => by omega⟩
  case round =>
    obtain ⟨k, hk, rfl, hB, hI, hJ, hall⟩ := hrel
    have HB : Hid (Below w.heap.size w wr) := hB
    have HI : Hid (IntsAt wr w.heap.size 0 [a0, a1, a2, a3]) := hI
    have HJ : Hid (IntsAt wr (w.heap.size + 1) 0 [b0, b1, b2, b3]) := hJ
    have HA : Hid (∀ j, j < k → mB (intAt [a0, a1, a2, a3] j) (intAt [b0, b1, b2, b3] j) = true) := hall
    clear hB hI hJ hall
    by_cases hlt : k < 4
    · obtain ⟨x, hx⟩ : ∃ x, x = intAt [a0, a1, a2, a3] k := ⟨_, rfl⟩
      obtain ⟨y, hy⟩ : ∃ y, y = intAt [b0, b1, b2, b3] k := ⟨_, rfl⟩
      have fx := Beyond.ints0 HI.out (k := k) hlt hx
      have fy := Beyond.ints0 HJ.out (k := k) hlt hy
      have HX : Hid (x = intAt [a0, a1, a2, a3] k) := hx
      have HY : Hid (y = intAt [b0, b1, b2, b3] k) := hy
      clear hx hy
      have hki : (k : Int) < 4 := by omega
      by_cases e1 : x = -1
      case pos =>
        have d1 : (x != (-1 : Int)) = false := by simp [e1]
        have HF : Hid (mB x y = true) := by show _ = _; simp [mB, *]
        clear e1
        go_wp2_with fail
        refine wp_region_beyond (by kernel_rfl) (by kernel_rfl) ?_
        repeat (go_big_quiet_step (fail))
        refine wpQuiet_nil ?_
        rintro w2 ⟨⟨_, hb2⟩, rfl⟩
        clear fx fy
        go_wp2
        go_roundw
        case rel => exact ⟨k + 1, by omega, by go_num, HB.out.trans (hb2.mono HB.out.size), HI.out.below hb2 HI.out.1, HJ.out.below hb2 HJ.out.1, fun j hj => by
          by_cases e : j < k
          · exact HA.out j e
          · rw [show j = k by omega, ← HX.out, ← HY.out]; exact HF.out⟩
        case measure => simp [intOf]; omega
      have d1 : (x != (-1 : Int)) = true := by simp [e1]
      by_cases e2 : y = -1
      case pos =>
        have d2 : (y != (-1 : Int)) = false := by simp [e2]
        have HF : Hid (mB x y = true) := by show _ = _; simp [mB, *]
        clear e1 e2
        go_wp2_with fail
        refine wp_region_beyond (by kernel_rfl) (by kernel_rfl) ?_
        repeat (go_big_quiet_step (fail))
        refine wpQuiet_nil ?_
        rintro w2 ⟨⟨_, hb2⟩, rfl⟩
        clear fx fy
        go_wp2
        go_roundw
        case rel => exact ⟨k + 1, by omega, by go_num, HB.out.trans (hb2.mono HB.out.size), HI.out.below hb2 HI.out.1, HJ.out.below hb2 HJ.out.1, fun j hj => by
          by_cases e : j < k
          · exact HA.out j e
          · rw [show j = k by omega, ← HX.out, ← HY.out]; exact HF.out⟩
        case measure => simp [intOf]; omega
      have d2 : (y != (-1 : Int)) = true := by simp [e2]
      by_cases e3 : x = y
      case pos =>
        have d3 : (x != y) = false := by simp [e3]
        have HF : Hid (mB x y = true) := by show _ = _; simp [mB, *]
        clear e1 e2 e3
        go_wp2_with fail
        refine wp_region_beyond (by kernel_rfl) (by kernel_rfl) ?_
        repeat (go_big_quiet_step (fail))
        refine wpQuiet_nil ?_
        rintro w2 ⟨⟨_, hb2⟩, rfl⟩
        clear fx fy
        go_wp2
        go_roundw
        case rel => exact ⟨k + 1, by omega, by go_num, HB.out.trans (hb2.mono HB.out.size), HI.out.below hb2 HI.out.1, HJ.out.below hb2 HJ.out.1, fun j hj => by
          by_cases e : j < k
          · exact HA.out j e
          · rw [show j = k by omega, ← HX.out, ← HY.out]; exact HF.out⟩
        case measure => simp [intOf]; omega
      have d3 : (x != y) = true := by simp [e3]
      have HF : Hid (mB x y = false) := by show _ = _; simp [mB, *]
      clear e1 e2 e3
      go_wp2_with fail
      refine wp_region_beyond (by kernel_rfl) (by kernel_rfl) ?_
      repeat (go_big_quiet_step (fail))
      refine wpQuiet_nil ?_
      rintro w2 ⟨⟨_, hb2⟩, rfl⟩
      clear fx fy
      go_wp2
      go_ret
      exact ⟨ret_bool (all4_no hlt (by rw [← HX.out, ← HY.out]; exact HF.out)).symm, HB.out.trans (hb2.mono HB.out.size)⟩
    · go_wp2
      go_ret
      exact ⟨ret_bool (all4_yes (fun j hj => HA.out j (by omega))).symm, HB.out⟩

set_option maxHeartbeats 4000000 in
theorem refines_any (a0 a1 a2 a3 b0 b1 b2 b3 : Int) (w : World) :
    Calls Try.prog 28 #[vec a0 a1 a2 a3, vec b0 b1 b2 b3] w fun e w' => e = .returned (.bool (refB [a0, a1, a2, a3] [b0, b1, b2, b3])) ∧ Below w.heap.size w w' := by
  go_enter Try.func28, Try.ntmps28
  go_wp2
  go_loopw [6] (fun i wr => ∃ k : Nat, k ≤ 4 ∧ i = .int .i64 k ∧ Below w.heap.size w wr ∧ IntsAt wr w.heap.size 0 [a0, a1, a2, a3] ∧ IntsAt wr (w.heap.size + 1) 0 [b0, b1, b2, b3] ∧ ∀ j, j < k → rB (intAt [a0, a1, a2, a3] j) (intAt [b0, b1, b2, b3] j) = true) (fun i _ => 4 - (intOf i).toNat)
  case atStart =>
    have h1 := ints_alloc w a0 a1 a2 a3 37
    have h2 := ints_alloc (w.alloc (cell4 a0 a1 a2 a3)) b0 b1 b2 b3 37
    rw [show (w.alloc (cell4 a0 a1 a2 a3)).heap.size = w.heap.size + 1 by simp] at h2
    refine ⟨0, by omega, rfl, ((Below.refl _ w).alloc (Nat.le_refl _) _).alloc (by simp) _, h1.below ((Below.refl (w.heap.size + 1) _).alloc (by simp) _) (by omega), h2, fun j hj => by omega⟩
  case round =>
    obtain ⟨k, hk, rfl, hB, hI, hJ, hall⟩ := hrel
    have HB : Hid (Below w.heap.size w wr) := hB
    have HI : Hid (IntsAt wr w.heap.size 0 [a0, a1, a2, a3]) := hI
    have HJ : Hid (IntsAt wr (w.heap.size + 1) 0 [b0, b1, b2, b3]) := hJ
    have HA : Hid (∀ j, j < k → rB (intAt [a0, a1, a2, a3] j) (intAt [b0, b1, b2, b3] j) = true) := hall
    clear hB hI hJ hall
    by_cases hlt : k < 4
    · obtain ⟨x, hx⟩ : ∃ x, x = intAt [a0, a1, a2, a3] k := ⟨_, rfl⟩
      obtain ⟨y, hy⟩ : ∃ y, y = intAt [b0, b1, b2, b3] k := ⟨_, rfl⟩
      have fx := Beyond.ints0 HI.out (k := k) hlt hx
      have fy := Beyond.ints0 HJ.out (k := k) hlt hy
      have HX : Hid (x = intAt [a0, a1, a2, a3] k) := hx
      have HY : Hid (y = intAt [b0, b1, b2, b3] k) := hy
      clear hx hy
      have hki : (k : Int) < 4 := by omega
      by_cases e2 : y = -1
      case pos =>
        have d2 : (y != (-1 : Int)) = false := by simp [e2]
        have HF : Hid (rB x y = true) := by show _ = _; simp [rB, *]
        clear e2
        go_wp2_with fail
        refine wp_region_beyond (by kernel_rfl) (by kernel_rfl) ?_
        repeat (go_big_quiet_step (fail))
        refine wpQuiet_nil ?_
        rintro w2 ⟨⟨_, hb2⟩, rfl⟩
        clear fx fy
        go_wp2
        go_roundw
        case rel => exact ⟨k + 1, by omega, by go_num, HB.out.trans (hb2.mono HB.out.size), HI.out.below hb2 HI.out.1, HJ.out.below hb2 HJ.out.1, fun j hj => by
          by_cases e : j < k
          · exact HA.out j e
          · rw [show j = k by omega, ← HX.out, ← HY.out]; exact HF.out⟩
        case measure => simp [intOf]; omega
      have d2 : (y != (-1 : Int)) = true := by simp [e2]
      by_cases e3 : x = y
      case pos =>
        have d3 : (x != y) = false := by simp [e3]
        have HF : Hid (rB x y = true) := by show _ = _; simp [rB, *]
        clear e2 e3
        go_wp2_with fail
        refine wp_region_beyond (by kernel_rfl) (by kernel_rfl) ?_
        repeat (go_big_quiet_step (fail))
        refine wpQuiet_nil ?_
        rintro w2 ⟨⟨_, hb2⟩, rfl⟩
        clear fx fy
        go_wp2
        go_roundw
        case rel => exact ⟨k + 1, by omega, by go_num, HB.out.trans (hb2.mono HB.out.size), HI.out.below hb2 HI.out.1, HJ.out.below hb2 HJ.out.1, fun j hj => by
          by_cases e : j < k
          · exact HA.out j e
          · rw [show j = k by omega, ← HX.out, ← HY.out]; exact HF.out⟩
        case measure => simp [intOf]; omega
      have d3 : (x != y) = true := by simp [e3]
      have HF : Hid (rB x y = false) := by show _ = _; simp [rB, *]
      clear e2 e3
      go_wp2_with fail
      refine wp_region_beyond (by kernel_rfl) (by kernel_rfl) ?_
      repeat (go_big_quiet_step (fail))
      refine wpQuiet_nil ?_
      rintro w2 ⟨⟨_, hb2⟩, rfl⟩
      clear fx fy
      go_wp2
      go_ret
      exact ⟨ret_bool (all4_no hlt (by rw [← HX.out, ← HY.out]; exact HF.out)).symm, HB.out.trans (hb2.mono HB.out.size)⟩
    · go_wp2
      go_ret
      exact ⟨ret_bool (all4_yes (fun j hj => HA.out j (by omega))).symm, HB.out⟩

end Go.Proofs.Ytofbholpggkjcab

/- Vectors: an array of four numbers in a block of its own. -/
namespace Go.Proofs.Ytofbholpggkjcab
open Go.RowKit
def V4 (w : World) (g : Nat) (a b c d : Int) : Prop := w.heap[g]? = some (cell4 a b c d)
theorem V4.new (w : World) (a b c d : Int) : V4 (w.alloc (cell4 a b c d)) w.heap.size a b c d := by
  show (w.heap.push _)[w.heap.size]? = _
  simp
theorem V4.keep {w w' : World} {B g : Nat} {a b c d : Int} (h : V4 w g a b c d) (hb : Below B w w') (hg : g < B) : V4 w' g a b c d := (hb.block g hg).trans h
theorem V4.lt {w : World} {g : Nat} {a b c d : Int} (h : V4 w g a b c d) : g < w.heap.size := (Array.getElem?_eq_some_iff.1 h).1
theorem V4.alloc {w : World} {g : Nat} {a b c d : Int} (h : V4 w g a b c d) (o : Obj) : V4 (w.alloc o) g a b c d := h.keep ((Below.refl w.heap.size w).alloc (Nat.le_refl _) o) h.lt
theorem V4.cells {w : World} {g : Nat} {a b c d : Int} (h : V4 w g a b c d) :
    w.cell? ⟨g, 0, none⟩ = some (.int .i64 a) ∧ w.cell? ⟨g, 1, none⟩ = some (.int .i64 b) ∧ w.cell? ⟨g, 2, none⟩ = some (.int .i64 c) ∧ w.cell? ⟨g, 3, none⟩ = some (.int .i64 d) ∧ (∀ o, w.frozen? ⟨g, o, none⟩ = false) := by
  have h' : w.heap[g]? = some (.cells #[i64 a, i64 b, i64 c, i64 d] 37) := h
  refine ⟨?_, ?_, ?_, ?_, fun o => ?_⟩
  · unfold World.cell?; simp only [h']; rfl
  · unfold World.cell?; simp only [h']; rfl
  · unfold World.cell?; simp only [h']; rfl
  · unfold World.cell?; simp only [h']; rfl
  · unfold World.frozen?; simp only [h']; simp
theorem V4.ints {w : World} {g : Nat} {a b c d : Int} (h : V4 w g a b c d) : IntsAt w g 0 [a, b, c, d] := by
  obtain ⟨h0, h1, h2, h3, _⟩ := h.cells
  refine ⟨h.lt, fun i hi => ?_⟩
  have hi4 : i = 0 ∨ i = 1 ∨ i = 2 ∨ i = 3 := by simp at hi; omega
  rcases hi4 with rfl | rfl | rfl | rfl
  · exact h0
  · exact h1
  · exact h2
  · exact h3
abbrev put4 (w : World) (g : Nat) (a b c d : Int) : World := (((w.setCell ⟨g, 0, none⟩ (.int .i64 a)).setCell ⟨g, 1, none⟩ (.int .i64 b)).setCell ⟨g, 2, none⟩ (.int .i64 c)).setCell ⟨g, 3, none⟩ (.int .i64 d)
theorem put4_below {B : Nat} {a w : World} (h : Below B a w) {g : Nat} (hg : B ≤ g) (x0 x1 x2 x3 : Int) : Below B a (put4 w g x0 x1 x2 x3) :=
  (((h.setCell (p := ⟨g, 0, none⟩) hg _).setCell (p := ⟨g, 1, none⟩) hg _).setCell (p := ⟨g, 2, none⟩) hg _).setCell (p := ⟨g, 3, none⟩) hg _
theorem put4_size (w : World) (g : Nat) (x0 x1 x2 x3 : Int) : (put4 w g x0 x1 x2 x3).heap.size = w.heap.size := by simp
theorem V4.put {w : World} {g : Nat} {a b c d : Int} (h : V4 w g a b c d) (x0 x1 x2 x3 : Int) : V4 (put4 w g x0 x1 x2 x3) g x0 x1 x2 x3 := by
  have h' : w.heap[g]? = some (.cells #[i64 a, i64 b, i64 c, i64 d] 37) := h
  obtain ⟨hl, hv⟩ := Array.getElem?_eq_some_iff.1 h'
  unfold V4 put4
  simp [World.setCell, hl, Array.getElem_modify, hv]
theorem V4.other {w : World} {g k : Nat} {a b c d : Int} (h : V4 w g a b c d) (hk : g ≠ k) (x0 x1 x2 x3 : Int) : V4 (put4 w k x0 x1 x2 x3) g a b c d := by
  have e : (put4 w k x0 x1 x2 x3).heap[g]? = w.heap[g]? := by
    unfold put4
    rw [Below.heap_setCell _ _ _ _ hk, Below.heap_setCell _ _ _ _ hk, Below.heap_setCell _ _ _ _ hk, Below.heap_setCell _ _ _ _ hk]
  exact e.trans h
end Go.Proofs.Ytofbholpggkjcab

