/- VQuiet, VMeet, VSpec, VBox, VLow, VNum, VDecS, NCur, NDraw -/
import Derived.Test.YtmpoffepoafblaaGreatHandlesG16
import Derived.Test.YtmpoffepoafblaaGreatHandlesLQuiet
import Derived.Deep.QuietTactic
import Derived.BigQuiet
import Derived.Test.YtmpoffepoafblaaGreatHandlesG01
import Derived.Lib.OthersKept
import Derived.BigRegion
/- A region that draws its order, whose operations only read and whose callees lay blocks of their own, is walked once, in the order of the text. -/
namespace Go.Proofs.YtmpoffepoafblaaGreat
open Go.RowKit
/- A world in which all that W had lies as it lay. -/
theorem Beyond.ints {W : World} {b off : Nat} {l : List Int} (h : IntsAt W b off l) {k : Nat} (hk : k < l.length) {z : Int} (hz : z = intAt l k) : ∀ p : Beyond W, p.w.cell? ⟨b, off + k, none⟩ = some (.int .i64 z) := fun p => hz ▸ p.cell h.1 (h.2 k hk)
theorem Beyond.ints0 {W : World} {b : Nat} {l : List Int} (h : IntsAt W b 0 l) {k : Nat} (hk : k < l.length) {z : Int} (hz : z = intAt l k) : ∀ p : Beyond W, p.w.cell? ⟨b, k, none⟩ = some (.int .i64 z) := fun p => by have := Beyond.ints h hk hz p; rwa [Nat.zero_add] at this
instance (W : World) : Nonempty (Beyond W) := ⟨⟨W, Below.refl _ _⟩⟩
end Go.Proofs.YtmpoffepoafblaaGreat

/- Vectors: the program's meets and refines, the specification's l6meet. -/
namespace Go.Proofs.YtmpoffepoafblaaGreat
open Go.RowKit
/- Two numbers that may be of one run. -/
def mB (a b : Int) : Bool := decide (a = -1) || decide (b = -1) || decide (a = b)
def rB (a b : Int) : Bool := decide (b = -1) || decide (a = b)
def meetB (l r : List Int) : Bool := (List.range 4).all fun j => mB (intAt l j) (intAt r j)
def refB (l r : List Int) : Bool := (List.range 4).all fun j => rB (intAt l j) (intAt r j)
theorem all4_yes {f : Nat → Bool} (h : ∀ j, j < 4 → f j = true) : (List.range 4).all f = true := by
  rw [List.all_eq_true]; intro x hx; exact h x (by simpa using hx)
theorem all4_no {f : Nat → Bool} {j : Nat} (hj : j < 4) (h : f j = false) : (List.range 4).all f = false := by
  rw [List.all_eq_false]; exact ⟨j, by simpa using hj, by simp [h]⟩
theorem ints_alloc (w : World) (a b c d : Int) (t : TypeId) : IntsAt (w.alloc (.cells #[i64 a, i64 b, i64 c, i64 d] t)) w.heap.size 0 [a, b, c, d] := by
  refine ⟨by simp, fun i hi => ?_⟩
  have hi4 : i = 0 ∨ i = 1 ∨ i = 2 ∨ i = 3 := by simp at hi; omega
  have hh : (w.alloc (.cells #[i64 a, i64 b, i64 c, i64 d] t)).heap[w.heap.size]? = some (.cells #[i64 a, i64 b, i64 c, i64 d] t) := by
    show (w.heap.push _)[w.heap.size]? = _
    simp
  rcases hi4 with rfl | rfl | rfl | rfl <;> (unfold World.cell?; simp only [hh]; rfl)

set_option maxHeartbeats 4000000 in
theorem meets_any (a0 a1 a2 a3 b0 b1 b2 b3 : Int) (w : World) :
    Calls Tryz.prog 94 #[vec a0 a1 a2 a3, vec b0 b1 b2 b3] w fun e w' => e = .returned (.bool (meetB [a0, a1, a2, a3] [b0, b1, b2, b3])) ∧ Below w.heap.size w w' := by
  go_enter Tryz.func94, Tryz.ntmps94
  go_wp2
  go_loopw [6] (fun i wr => ∃ k : Nat, k ≤ 4 ∧ i = .int .i64 k ∧ Below w.heap.size w wr ∧ IntsAt wr w.heap.size 0 [a0, a1, a2, a3] ∧ IntsAt wr (w.heap.size + 1) 0 [b0, b1, b2, b3] ∧ ∀ j, j < k → mB (intAt [a0, a1, a2, a3] j) (intAt [b0, b1, b2, b3] j) = true) (fun i _ => 4 - (intOf i).toNat)
  case atStart =>
    have h1 := ints_alloc w a0 a1 a2 a3 107
    have h2 := ints_alloc (w.alloc (cell4 a0 a1 a2 a3)) b0 b1 b2 b3 107
    rw [show (w.alloc (cell4 a0 a1 a2 a3)).heap.size = w.heap.size + 1 by simp] at h2
    refine ⟨0, by omega, rfl, ((Below.refl _ w).alloc (Nat.le_refl _) _).alloc (by simp) _, h1.below ((Below.refl (w.heap.size + 1) _).alloc (by simp) _) (by omega), h2, fun j hj => by omega⟩
  case round =>
    obtain ⟨k, hk, rfl, hB, hI, hJ, hall⟩ := hrel
    have HB : Hid (Below w.heap.size w wr) := hB
    have HI : Hid (IntsAt wr w.heap.size 0 [a0, a1, a2, a3]) := hI
    have HJ : Hid (IntsAt wr (w.heap.size + 1) 0 [b0, b1, b2, b3]) := hJ
    have HA : Hid (∀ j, j < k → mB (intAt [a0, a1, a2, a3] j) (intAt [b0, b1, b2, b3] j) = true) := hall
    clear hB hI hJ hall
    by_cases hlt : k < 4
    · obtain ⟨x, hx⟩ : ∃ x, x = intAt [a0, a1, a2, a3] k := ⟨_, rfl⟩
      obtain ⟨y, hy⟩ : ∃ y, y = intAt [b0, b1, b2, b3] k := ⟨_, rfl⟩
      have fx := Beyond.ints0 HI.out (k := k) hlt hx
      have fy := Beyond.ints0 HJ.out (k := k) hlt hy
      have HX : Hid (x = intAt [a0, a1, a2, a3] k) := hx
      have HY : Hid (y = intAt [b0, b1, b2, b3] k) := hy
      clear hx hy
      have hki : (k : Int) < 4 := by omega
      by_cases e1 : x = -1
      case pos =>
        have d1 : (x != (-1 : Int)) = false := by simp [e1]
        have HF : Hid (mB x y = true) := by show _ = _; simp [mB, *]
        clear e1
        go_wp2_with fail
        refine wp_region_beyond (by kernel_rfl) (by kernel_rfl) ?_
        repeat (go_big_quiet_step (fail))
        refine wpQuiet_nil ?_
        rintro w2 ⟨⟨_, hb2⟩, rfl⟩
        clear fx fy
        go_wp2
        go_roundw
        case rel => exact ⟨k + 1, by omega, by go_num, HB.out.trans (hb2.mono HB.out.size), HI.out.below hb2 HI.out.1, HJ.out.below hb2 HJ.out.1, fun j hj => by
          by_cases e : j < k
          · exact HA.out j e
          · rw [show j = k by omega, ← HX.out, ← HY.out]; exact HF.out⟩
        case measure => simp [intOf]; omega
      have d1 : (x != (-1 : Int)) = true := by simp [e1]
      by_cases e2 : y = -1
      case pos =>
        have d2 : (y != (-1 : Int)) = false := by simp [e2]
        have HF : Hid (mB x y = true) := by show _ = _; simp [mB, *]
        clear e1 e2
        go_wp2_with fail
        refine wp_region_beyond (by kernel_rfl) (by kernel_rfl) ?_
        repeat (go_big_quiet_step (fail))
        refine wpQuiet_nil ?_
        rintro w2 ⟨⟨_, hb2⟩, rfl⟩
        clear fx fy
        go_wp2
        go_roundw
        case rel => exact ⟨k + 1, by omega, by go_num, HB.out.trans (hb2.mono HB.out.size), HI.out.below hb2 HI.out.1, HJ.out.below hb2 HJ.out.1, fun j hj => by
          by_cases e : j < k
          · exact HA.out j e
          · rw [show j = k by omega, ← HX.out, ← HY.out]; exact HF.out⟩
        case measure => simp [intOf]; omega
      have d2 : (y != (-1 : Int)) = true := by simp [e2]
      by_cases e3 : x = y
      case pos =>
        have d3 : (x != y) = false := by simp [e3]
        have HF : Hid (mB x y = true) := by show _ = _; simp [mB, *]
        clear e1 e2 e3
        go_wp2_with fail
        refine wp_region_beyond (by kernel_rfl) (by kernel_rfl) ?_
        repeat (go_big_quiet_step (fail))
        refine wpQuiet_nil ?_
        rintro w2 ⟨⟨_, hb2⟩, rfl⟩
        clear fx fy
        go_wp2
        go_roundw
        case rel => exact ⟨k + 1, by omega, by go_num, HB.out.trans (hb2.mono HB.out.size), HI.out.below hb2 HI.out.1, HJ.out.below hb2 HJ.out.1, fun j hj => by
          by_cases e : j < k
          · exact HA.out j e
          · rw [show j = k by omega, ← HX.out, ← HY.out]; exact HF.out⟩
        case measure => simp [intOf]; omega
      have d3 : (x != y) = true := by simp [e3]
      have HF : Hid (mB x y = false) := by show _ = _; simp [mB, *]
      clear e1 e2 e3
      go_wp2_with fail
      refine wp_region_beyond (by kernel_rfl) (by kernel_rfl) ?_
      repeat (go_big_quiet_step (fail))
      refine wpQuiet_nil ?_
      rintro w2 ⟨⟨_, hb2⟩, rfl⟩
      clear fx fy
      go_wp2
      go_ret
      exact ⟨ret_bool (all4_no hlt (by rw [← HX.out, ← HY.out]; exact HF.out)).symm, HB.out.trans (hb2.mono HB.out.size)⟩
    · go_wp2
      go_ret
      exact ⟨ret_bool (all4_yes (fun j hj => HA.out j (by omega))).symm, HB.out⟩

set_option maxHeartbeats 4000000 in
theorem refines_any (a0 a1 a2 a3 b0 b1 b2 b3 : Int) (w : World) :
    Calls Tryz.prog 95 #[vec a0 a1 a2 a3, vec b0 b1 b2 b3] w fun e w' => e = .returned (.bool (refB [a0, a1, a2, a3] [b0, b1, b2, b3])) ∧ Below w.heap.size w w' := by
  go_enter Tryz.func95, Tryz.ntmps95
  go_wp2
  go_loopw [6] (fun i wr => ∃ k : Nat, k ≤ 4 ∧ i = .int .i64 k ∧ Below w.heap.size w wr ∧ IntsAt wr w.heap.size 0 [a0, a1, a2, a3] ∧ IntsAt wr (w.heap.size + 1) 0 [b0, b1, b2, b3] ∧ ∀ j, j < k → rB (intAt [a0, a1, a2, a3] j) (intAt [b0, b1, b2, b3] j) = true) (fun i _ => 4 - (intOf i).toNat)
  case atStart =>
    have h1 := ints_alloc w a0 a1 a2 a3 107
    have h2 := ints_alloc (w.alloc (cell4 a0 a1 a2 a3)) b0 b1 b2 b3 107
    rw [show (w.alloc (cell4 a0 a1 a2 a3)).heap.size = w.heap.size + 1 by simp] at h2
    refine ⟨0, by omega, rfl, ((Below.refl _ w).alloc (Nat.le_refl _) _).alloc (by simp) _, h1.below ((Below.refl (w.heap.size + 1) _).alloc (by simp) _) (by omega), h2, fun j hj => by omega⟩
  case round =>
    obtain ⟨k, hk, rfl, hB, hI, hJ, hall⟩ := hrel
    have HB : Hid (Below w.heap.size w wr) := hB
    have HI : Hid (IntsAt wr w.heap.size 0 [a0, a1, a2, a3]) := hI
    have HJ : Hid (IntsAt wr (w.heap.size + 1) 0 [b0, b1, b2, b3]) := hJ
    have HA : Hid (∀ j, j < k → rB (intAt [a0, a1, a2, a3] j) (intAt [b0, b1, b2, b3] j) = true) := hall
    clear hB hI hJ hall
    by_cases hlt : k < 4
    · obtain ⟨x, hx⟩ : ∃ x, x = intAt [a0, a1, a2, a3] k := ⟨_, rfl⟩
      obtain ⟨y, hy⟩ : ∃ y, y = intAt [b0, b1, b2, b3] k := ⟨_, rfl⟩
      have fx := Beyond.ints0 HI.out (k := k) hlt hx
      have fy := Beyond.ints0 HJ.out (k := k) hlt hy
      have HX : Hid (x = intAt [a0, a1, a2, a3] k) := hx
      have HY : Hid (y = intAt [b0, b1, b2, b3] k) := hy
      clear hx hy
      have hki : (k : Int) < 4 := by omega
      by_cases e2 : y = -1
      case pos =>
        have d2 : (y != (-1 : Int)) = false := by simp [e2]
        have HF : Hid (rB x y = true) := by show _ = _; simp [rB, *]
        clear e2
        go_wp2_with fail
        refine wp_region_beyond (by kernel_rfl) (by kernel_rfl) ?_
        repeat (go_big_quiet_step (fail))
        refine wpQuiet_nil ?_
        rintro w2 ⟨⟨_, hb2⟩, rfl⟩
        clear fx fy
        go_wp2
        go_roundw
        case rel => exact ⟨k + 1, by omega, by go_num, HB.out.trans (hb2.mono HB.out.size), HI.out.below hb2 HI.out.1, HJ.out.below hb2 HJ.out.1, fun j hj => by
          by_cases e : j < k
          · exact HA.out j e
          · rw [show j = k by omega, ← HX.out, ← HY.out]; exact HF.out⟩
        case measure => simp [intOf]; omega
      have d2 : (y != (-1 : Int)) = true := by simp [e2]
      by_cases e3 : x = y
      case pos =>
        have d3 : (x != y) = false := by simp [e3]
        have HF : Hid (rB x y = true) := by show _ = _; simp [rB, *]
        clear e2 e3
        go_wp2_with fail
        refine wp_region_beyond (by kernel_rfl) (by kernel_rfl) ?_
        repeat (go_big_quiet_step (fail))
        refine wpQuiet_nil ?_
        rintro w2 ⟨⟨_, hb2⟩, rfl⟩
        clear fx fy
        go_wp2
        go_roundw
        case rel => exact ⟨k + 1, by omega, by go_num, HB.out.trans (hb2.mono HB.out.size), HI.out.below hb2 HI.out.1, HJ.out.below hb2 HJ.out.1, fun j hj => by
          by_cases e : j < k
          · exact HA.out j e
          · rw [show j = k by omega, ← HX.out, ← HY.out]; exact HF.out⟩
        case measure => simp [intOf]; omega
      have d3 : (x != y) = true := by simp [e3]
      have HF : Hid (rB x y = false) := by show _ = _; simp [rB, *]
      clear e2 e3
      go_wp2_with fail
      refine wp_region_beyond (by kernel_rfl) (by kernel_rfl) ?_
      repeat (go_big_quiet_step (fail))
      refine wpQuiet_nil ?_
      rintro w2 ⟨⟨_, hb2⟩, rfl⟩
      clear fx fy
      go_wp2
      go_ret
      exact ⟨ret_bool (all4_no hlt (by rw [← HX.out, ← HY.out]; exact HF.out)).symm, HB.out.trans (hb2.mono HB.out.size)⟩
    · go_wp2
      go_ret
      exact ⟨ret_bool (all4_yes (fun j hj => HA.out j (by omega))).symm, HB.out⟩

end Go.Proofs.YtmpoffepoafblaaGreat

/- Vectors: the specification's Meets and Refines. -/
namespace Go.Proofs.YtmpoffepoafblaaGreat
open Go.RowKit
theorem vok_at {l : List Int} (h : vok l = true) (j : Nat) (hj : j < 4) : -1 ≤ intAt l j ∧ intAt l j ≤ 1 := by
  obtain ⟨a, b, c, d, rfl, h0, h1, h2, h3⟩ := vok_four h
  have hj4 : j = 0 ∨ j = 1 ∨ j = 2 ∨ j = 3 := by omega
  rcases hj4 with rfl | rfl | rfl | rfl
  · exact h0
  · exact h1
  · exact h2
  · exact h3
theorem vok_len4 {l : List Int} (h : vok l = true) : l.length = 4 := by
  simp only [vok, Bool.and_eq_true, decide_eq_true_eq] at h; exact h.2
theorem IsI.four {w : World} {x : Value} {l : List Int} (h : IsI w x l) (hl : l.length = 4) : ∃ b off cap, x = .slice (some ⟨b, off, none⟩) 4 cap ∧ IntsAt w b off l := by
  obtain ⟨a, cap, rfl, _, _, h⟩ := h
  obtain ⟨b, off, rfl, h'⟩ := h.resolve_left (by rintro rfl; simp at hl)
  exact ⟨b, off, cap, by rw [hl], h'⟩
end Go.Proofs.YtmpoffepoafblaaGreat

/- Vectors: an array of four numbers in a block of its own. -/
namespace Go.Proofs.YtmpoffepoafblaaGreat
open Go.RowKit
def V4 (w : World) (g : Nat) (a b c d : Int) : Prop := w.heap[g]? = some (cell4 a b c d)
theorem V4.new (w : World) (a b c d : Int) : V4 (w.alloc (cell4 a b c d)) w.heap.size a b c d := by
  show (w.heap.push _)[w.heap.size]? = _
  simp
theorem V4.keep {w w' : World} {B g : Nat} {a b c d : Int} (h : V4 w g a b c d) (hb : Below B w w') (hg : g < B) : V4 w' g a b c d := (hb.block g hg).trans h
theorem V4.lt {w : World} {g : Nat} {a b c d : Int} (h : V4 w g a b c d) : g < w.heap.size := (Array.getElem?_eq_some_iff.1 h).1
theorem V4.alloc {w : World} {g : Nat} {a b c d : Int} (h : V4 w g a b c d) (o : Obj) : V4 (w.alloc o) g a b c d := h.keep ((Below.refl w.heap.size w).alloc (Nat.le_refl _) o) h.lt
theorem V4.cells {w : World} {g : Nat} {a b c d : Int} (h : V4 w g a b c d) :
    w.cell? ⟨g, 0, none⟩ = some (.int .i64 a) ∧ w.cell? ⟨g, 1, none⟩ = some (.int .i64 b) ∧ w.cell? ⟨g, 2, none⟩ = some (.int .i64 c) ∧ w.cell? ⟨g, 3, none⟩ = some (.int .i64 d) ∧ (∀ o, w.frozen? ⟨g, o, none⟩ = false) := by
  have h' : w.heap[g]? = some (.cells #[i64 a, i64 b, i64 c, i64 d] 107) := h
  refine ⟨?_, ?_, ?_, ?_, fun o => ?_⟩
  · unfold World.cell?; simp only [h']; rfl
  · unfold World.cell?; simp only [h']; rfl
  · unfold World.cell?; simp only [h']; rfl
  · unfold World.cell?; simp only [h']; rfl
  · unfold World.frozen?; simp only [h']; simp
theorem V4.ints {w : World} {g : Nat} {a b c d : Int} (h : V4 w g a b c d) : IntsAt w g 0 [a, b, c, d] := by
  obtain ⟨h0, h1, h2, h3, _⟩ := h.cells
  refine ⟨h.lt, fun i hi => ?_⟩
  have hi4 : i = 0 ∨ i = 1 ∨ i = 2 ∨ i = 3 := by simp at hi; omega
  rcases hi4 with rfl | rfl | rfl | rfl
  · exact h0
  · exact h1
  · exact h2
  · exact h3
abbrev put4 (w : World) (g : Nat) (a b c d : Int) : World := (((w.setCell ⟨g, 0, none⟩ (.int .i64 a)).setCell ⟨g, 1, none⟩ (.int .i64 b)).setCell ⟨g, 2, none⟩ (.int .i64 c)).setCell ⟨g, 3, none⟩ (.int .i64 d)
theorem put4_below {B : Nat} {a w : World} (h : Below B a w) {g : Nat} (hg : B ≤ g) (x0 x1 x2 x3 : Int) : Below B a (put4 w g x0 x1 x2 x3) :=
  (((h.setCell (p := ⟨g, 0, none⟩) hg _).setCell (p := ⟨g, 1, none⟩) hg _).setCell (p := ⟨g, 2, none⟩) hg _).setCell (p := ⟨g, 3, none⟩) hg _
theorem put4_size (w : World) (g : Nat) (x0 x1 x2 x3 : Int) : (put4 w g x0 x1 x2 x3).heap.size = w.heap.size := by simp
theorem V4.put {w : World} {g : Nat} {a b c d : Int} (h : V4 w g a b c d) (x0 x1 x2 x3 : Int) : V4 (put4 w g x0 x1 x2 x3) g x0 x1 x2 x3 := by
  have h' : w.heap[g]? = some (.cells #[i64 a, i64 b, i64 c, i64 d] 107) := h
  obtain ⟨hl, hv⟩ := Array.getElem?_eq_some_iff.1 h'
  unfold V4 put4
  simp [World.setCell, hl, Array.getElem_modify, hv]
theorem V4.other {w : World} {g k : Nat} {a b c d : Int} (h : V4 w g a b c d) (hk : g ≠ k) (x0 x1 x2 x3 : Int) : V4 (put4 w k x0 x1 x2 x3) g a b c d := by
  have e : (put4 w k x0 x1 x2 x3).heap[g]? = w.heap[g]? := by
    unfold put4
    rw [Below.heap_setCell _ _ _ _ hk, Below.heap_setCell _ _ _ _ hk, Below.heap_setCell _ _ _ _ hk, Below.heap_setCell _ _ _ _ hk]
  exact e.trans h
end Go.Proofs.YtmpoffepoafblaaGreat

/- Rows of numbers: what stays where another row turns. -/
namespace Go.Proofs.YtmpoffepoafblaaGreat
open Go.RowKit
/- As IsI, in a block below B. -/
def LowI (B : Nat) (w : World) (x : Value) (l : List Int) : Prop := ∃ a cap, x = .slice a l.length cap ∧ l.length ≤ cap ∧ cap ≤ maxLen ∧ (l = [] ∨ ∃ b off, a = some ⟨b, off, none⟩ ∧ b < B ∧ IntsAt w b off l)
theorem LowI.isI {B : Nat} {w : World} {x : Value} {l : List Int} (h : LowI B w x l) : IsI w x l := by
  obtain ⟨a, cap, rfl, h1, h2, h⟩ := h
  exact ⟨a, cap, rfl, h1, h2, h.imp id (fun ⟨b, off, e, _, h⟩ => ⟨b, off, e, h⟩)⟩
theorem IsI.low {w : World} {x : Value} {l : List Int} (h : IsI w x l) : LowI w.heap.size w x l := by
  obtain ⟨a, cap, rfl, h1, h2, h⟩ := h
  exact ⟨a, cap, rfl, h1, h2, h.imp id (fun ⟨b, off, e, h⟩ => ⟨b, off, e, h.1, h⟩)⟩
theorem LowI.below {B : Nat} {w w' : World} {x : Value} {l : List Int} (h : LowI B w x l) (hb : Below B w w') : LowI B w' x l := by
  obtain ⟨a, cap, rfl, h1, h2, h⟩ := h
  exact ⟨a, cap, rfl, h1, h2, h.imp id (fun ⟨b, off, e, hB, h⟩ => ⟨b, off, e, hB, h.below hb hB⟩)⟩
theorem OwnI.other {B g : Nat} {w w' : World} {x : Value} {l : List Int} (h : OwnI B w x l) (hg : g < B) (hgr : w.grownBy w' (some g)) : OwnI B w' x l := by
  obtain ⟨a, cap, rfl, h1, h2, h⟩ := h
  refine ⟨a, cap, rfl, h1, h2, h.imp id ?_⟩
  rintro ⟨b, rfl, hB, hf, hr⟩
  have hk : w'.heap[b]? = w.heap[b]? := hgr.block b hr.1 (by intro e; have := Option.some.inj e; omega)
  have hc : ∀ o, w'.cell? ⟨b, o, none⟩ = w.cell? ⟨b, o, none⟩ := fun o => World.cell?_of_block (w := w) hk
  have hz : ∀ o, w'.frozen? ⟨b, o, none⟩ = w.frozen? ⟨b, o, none⟩ := fun o => World.frozen?_of_block (w := w) hk
  exact ⟨b, rfl, hB, fun j hj => (hz j).trans (hf j hj), Nat.lt_of_lt_of_le hr.1 hgr.size, fun i hi => (hc _).trans (hr.2 i hi)⟩
/- An answer: a list of one's own and a flag. -/
def AnsI (B : Nat) (r : List Int) (b : Bool) (e : Ending) (w' : World) : Prop := ∃ v, e = .returned (.tuple #[v, .bool b]) ∧ OwnI B w' v r
end Go.Proofs.YtmpoffepoafblaaGreat

/- Vectors: the program's copyOf and numbers, and numberOf. -/
namespace Go.Proofs.YtmpoffepoafblaaGreat
open Go.RowKit
theorem intCells_one (l : List Int) : ∀ u ∈ intCells l, u.oneCell' = true := by
  intro u hu
  simp only [intCells, List.mem_map] at hu
  obtain ⟨z, _, rfl⟩ := hu
  rfl
theorem add_none (b off n : Nat) : (⟨b, off, none⟩ : Addr).add n = ⟨b, off + n, none⟩ := by
  unfold Addr.add
  split <;> simp_all
theorem IntsAt.cells {w : World} {b off : Nat} {l : List Int} (h : IntsAt w b off l) : ∀ (j : Nat) (u : Value), (intCells l)[j]? = some u → w.cell? ((⟨b, off, none⟩ : Addr).add j) = some u := by
  intro j u hu
  obtain ⟨hj, rfl⟩ := List.getElem?_eq_some_iff.1 hu
  rw [intCells_length] at hj
  rw [add_none, h.2 j hj]
  simp [intCells, intAt, hj]
set_option maxHeartbeats 1000000 in
theorem copyI_any (b off cap : Nat) (l : List Int) (w : World) (hl : l.length ≤ 1048576) (hI : IntsAt w b off l) :
    Calls Tryz.prog 162 #[.slice (some ⟨b, off, none⟩) l.length cap] w fun e w' => ∃ x, e = .returned x ∧ OwnI w.heap.size w' x l ∧ Below w.heap.size w w' := by
  obtain ⟨i0, hi, hz0, hz1, hz2⟩ := info_parts info3
  have HI : Hid (IntsAt w b off l) := hI
  clear hI
  go_enter Tryz.func162, Tryz.ntmps162
  go_wp2_with (at_builtin; refine wpList_append_own _ rfl _ _ 22 rfl w.heap.size 3 i0 _ 1 8 Tryz.underlying22 hi hz0 hz1 hz2 rfl (by decide) (.slice none 0 0) 0 [] rfl (World.ownsRow_nil w _ 3 1) ⟨b, off, none⟩ l.length cap (intCells l) rfl (by rw [intCells_length]; omega) HI.out.cells (intCells_one l) (by unfold maxLen; omega) (by omega) (Nat.le_refl _) ?_; intro v' w1 hown hgrow hnil)
  go_ret
  refine ⟨_, rfl, OwnI.of_row (by simpa using hown), (Below.refl _ w).grown hgrow (Nat.le_refl _) (fun k e => by cases e)⟩
set_option maxHeartbeats 1000000 in
theorem numbers_any (a b c d : Int) (w : World) :
    Calls Tryz.prog 92 #[vec a b c d] w fun e w' => ∃ x, e = .returned x ∧ OwnI w.heap.size w' x [a, b, c, d] ∧ Below w.heap.size w w' := by
  have hI : IntsAt (w.alloc (cell4 a b c d)) w.heap.size 0 [a, b, c, d] := (V4.new w a b c d).ints
  have H : Hid (Calls Tryz.prog 162 #[.slice (some ⟨w.heap.size, 0, none⟩) 4 4] (w.alloc (cell4 a b c d)) fun e w' => ∃ x, e = .returned x ∧ OwnI (w.alloc (cell4 a b c d)).heap.size w' x [a, b, c, d] ∧ Below (w.alloc (cell4 a b c d)).heap.size (w.alloc (cell4 a b c d)) w') := copyI_any _ 0 4 [a, b, c, d] _ (by simp) hI
  clear hI
  go_enter Tryz.func92, Tryz.ntmps92
  go_wp2_with fail
  refine H.out.mono ?_
  rintro e w1 ⟨x, rfl, ho, hb⟩
  have hB : Below w.heap.size w w1 := ((Below.refl _ w).alloc (Nat.le_refl _) _).trans (hb.mono (by simp))
  have hO : OwnI w.heap.size w1 x [a, b, c, d] := ho.mono (by simp)
  clear ho hb
  go_wp2
  go_ret
  exact ⟨_, rfl, hO, hB⟩
abbrev abc : ByteArray := ⟨#[63, 110, 121]⟩
/- What numberOf tells of a letter. -/
def numOfR (z : Int) : Value := if z = 63 then .tuple #[.int .i64 (-1), .bool true] else if z = 110 then .tuple #[.int .i64 0, .bool true] else if z = 121 then .tuple #[.int .i64 1, .bool true] else .tuple #[.int .i64 0, .bool false]
set_option maxHeartbeats 1000000 in
theorem numberOf_any (z : Int) (w : World) :
    Calls Tryz.prog 91 #[.int .i32 z] w fun e w' => e = .returned (numOfR z) ∧ Below w.heap.size w w' := by
  have n0 : ∀ ty, (Instr.next (.pointer (some ⟨w.heap.size, 0, none⟩)) true ty).run Tryz.prog (w.iter abc 0) = .ok (.tuple #[.bool true, .int .i64 0, .int .i32 63]) (w.iter abc 1) := fun ty => run_next_ascii w abc 0 ty (by decide) (by decide)
  have n1 : ∀ ty, (Instr.next (.pointer (some ⟨w.heap.size, 0, none⟩)) true ty).run Tryz.prog (w.iter abc 1) = .ok (.tuple #[.bool true, .int .i64 1, .int .i32 110]) (w.iter abc 2) := fun ty => run_next_ascii w abc 1 ty (by decide) (by decide)
  have n2 : ∀ ty, (Instr.next (.pointer (some ⟨w.heap.size, 0, none⟩)) true ty).run Tryz.prog (w.iter abc 2) = .ok (.tuple #[.bool true, .int .i64 2, .int .i32 121]) (w.iter abc 3) := fun ty => run_next_ascii w abc 2 ty (by decide) (by decide)
  have n3 : ∀ ty, (Instr.next (.pointer (some ⟨w.heap.size, 0, none⟩)) true ty).run Tryz.prog (w.iter abc 3) = .ok (.tuple #[.bool false]) (w.iter abc 3) := fun ty => run_next_end w abc 3 ty (by decide)
  have HB : Hid (∀ p, Below w.heap.size w (w.iter abc p)) := fun p => (Below.refl _ w).alloc (Nat.le_refl _) _
  go_enter Tryz.func91, Tryz.ntmps91
  go_wp2
  go_loopw [] (fun wr => (wr = w.iter abc 0) ∨ (wr = w.iter abc 1 ∧ Hid (¬ z = 63)) ∨ (wr = w.iter abc 2 ∧ Hid (¬ z = 63 ∧ ¬ z = 110)) ∨ (wr = w.iter abc 3 ∧ Hid (¬ z = 63 ∧ ¬ z = 110 ∧ ¬ z = 121))) (fun wr => 3 - wr.iterPos w.heap.size)
  case atStart => exact .inl rfl
  case round =>
    rcases hrel with rfl | ⟨rfl, h⟩ | ⟨rfl, h⟩ | ⟨rfl, h⟩
    · by_cases e : z = 63
      · subst e
        go_wp2
        go_ret2
        exact ⟨rfl, HB.out _⟩
      · have d : ((63 : Int) == z) = false := by simp; omega
        have HE : Hid (¬ z = 63) := e
        clear e
        go_wp2
        go_roundw
        case rel => exact .inr (.inl ⟨trivial, HE⟩)
        case measure => simp
    · by_cases e : z = 110
      · subst e
        go_wp2
        go_ret2
        exact ⟨rfl, HB.out _⟩
      · have d : ((110 : Int) == z) = false := by simp; omega
        have HE : Hid (¬ z = 63 ∧ ¬ z = 110) := ⟨h.out, e⟩
        clear e h
        go_wp2
        go_roundw
        case rel => exact .inr (.inr (.inl ⟨trivial, HE⟩))
        case measure => simp
    · by_cases e : z = 121
      · subst e
        go_wp2
        go_ret2
        exact ⟨rfl, HB.out _⟩
      · have d : ((121 : Int) == z) = false := by simp; omega
        have HE : Hid (¬ z = 63 ∧ ¬ z = 110 ∧ ¬ z = 121) := ⟨h.out.1, h.out.2, e⟩
        clear e h
        go_wp2
        go_roundw
        case rel => exact .inr (.inr (.inr ⟨trivial, HE⟩))
        case measure => simp
    · have HE : Hid (numOfR z = .tuple #[.int .i64 0, .bool false]) := by show _ = _; simp [numOfR, h.out.1, h.out.2.1, h.out.2.2]
      clear h
      go_wp2
      go_ret2
      exact ⟨by rw [HE.out]; rfl, HB.out _⟩
end Go.Proofs.YtmpoffepoafblaaGreat

/- Vectors: both Decide. -/
namespace Go.Proofs.YtmpoffepoafblaaGreat
open Go.RowKit
def decB (l : List Int) (d v : Int) : Bool := vok l && (decide (0 ≤ d) && decide (d ≤ 3)) && (decide (0 ≤ v) && decide (v ≤ 1))
def decF (l : List Int) (d v : Int) : Bool := decB l d v && decide (intAt l d.toNat = -1)
def decR (l : List Int) (d v : Int) : List Int := if decB l d v = true then (if intAt l d.toNat = -1 then l.set d.toNat v else l) else []
theorem decB_iff {l : List Int} {d v : Int} : decB l d v = true ↔ vok l = true ∧ 0 ≤ d ∧ d ≤ 3 ∧ 0 ≤ v ∧ v ≤ 1 := by
  simp [decB, and_assoc]
theorem dec_no {l : List Int} {d v : Int} (h : decB l d v = false) : decF l d v = false ∧ decR l d v = [] := by simp [decF, decR, h]
theorem decR_length (l : List Int) (d v : Int) : (decR l d v).length ≤ l.length := by
  unfold decR
  split
  · split
    · rw [List.length_set]; exact Nat.le_refl _
    · exact Nat.le_refl _
  · exact Nat.zero_le _
theorem rowI_empty (w : World) : (w.alloc (.cells #[] 3)).ownsRow w.heap.size 3 1 (.slice (some ⟨w.heap.size, 0, none⟩) 0 0) 0 [] :=
  ⟨rfl, .inr ⟨w.heap.size, 0, #[], rfl, Nat.le_refl _, (MapKept.heap_alloc w _).1, Nat.le_refl _, Nat.zero_le _, rfl, rfl⟩⟩
theorem OwnI.four {B : Nat} {w : World} {x : Value} {l : List Int} (h : OwnI B w x l) (hl : l.length = 4) : ∃ g cap, x = .slice (some ⟨g, 0, none⟩) 4 cap ∧ 4 ≤ cap ∧ cap ≤ maxLen ∧ B ≤ g ∧ RowI w g l := by
  obtain ⟨a, cap, rfl, h1, h2, h⟩ := h
  obtain ⟨g, rfl, hg, hf, hr⟩ := h.resolve_left (by rintro rfl; simp at hl)
  exact ⟨g, cap, by rw [hl], by omega, h2, hg, hr.1, fun j hj => ⟨by have := hr.2 j hj; rwa [Nat.zero_add] at this, hf j hj⟩⟩
theorem RowI.put {w : World} {g m : Nat} {l : List Int} (h : RowI w g l) (hm : m < l.length) (v : Int) : RowI (w.setCell ⟨g, m, none⟩ (.int .i64 v)) g (l.set m v) := by
  have e1 : w.setCell ⟨g, m, none⟩ (.int .i64 v) = w.setCells g m [.int .i64 v] := rfl
  refine ⟨by simpa using h.1, fun j hj => ⟨?_, ?_⟩⟩
  · have hj' : j < l.length := by simpa using hj
    by_cases e : j = m
    · subst e
      have h0 := World.cell?_setCells_in g [.int .i64 v] j w (fun i hi => by
        obtain rfl : i = 0 := by simpa using hi
        rw [Nat.add_zero, (h.2 j hm).1]; rfl) 0 (by simp)
      rw [e1]
      simpa [intAt, hm] using h0
    · rw [e1, World.cell?_setCells_out g _ m w ⟨g, j, none⟩ (fun _ _ => by simp; omega), (h.2 j hj').1]
      simp [intAt, Ne.symm e]
  · rw [e1, World.frozen?_setCells]; exact (h.2 j (by simpa using hj)).2
theorem RowI.ownC {w : World} {g cap : Nat} {l : List Int} (h : RowI w g l) (hl : l.length = 4) (hc : 4 ≤ cap) (hm : cap ≤ maxLen) {B : Nat} (hB : B ≤ g) : OwnI B w (.slice (some ⟨g, 0, none⟩) 4 cap) l :=
  ⟨_, _, by rw [hl], by omega, hm, .inr ⟨g, rfl, hB, fun j hj => (h.2 j hj).2, h.1, fun i hi => by rw [Nat.zero_add]; exact (h.2 i hi).1⟩⟩
end Go.Proofs.YtmpoffepoafblaaGreat

/- The cursor over the bytes of a draw. -/
namespace Go.Proofs.YtmpoffepoafblaaGreat
open Go.RowKit

/- n bytes that lie below block B. -/
def CodeIn (w : World) (B : Nat) (a : Option Addr) (n : Nat) : Prop := n = 0 ∨ ∃ b off, a = some ⟨b, off, none⟩ ∧ b < B ∧ ∀ i, i < n → ∃ z : Nat, z < 256 ∧ w.cell? ⟨b, off + i, none⟩ = some (.int .u8 (z : Int))
theorem CodeIn.below {w w' : World} {B B' : Nat} {a : Option Addr} {n : Nat} (h : CodeIn w B a n) (hb : Below B' w w') (hB : B ≤ B') : CodeIn w' B a n := by
  rcases h with h | ⟨b, off, h1, h2, h3⟩
  · exact .inl h
  · exact .inr ⟨b, off, h1, h2, fun i hi => by
      obtain ⟨z, hz, hc⟩ := h3 i hi
      exact ⟨z, hz, (hb.cell (p := ⟨b, off + i, none⟩) (by show b < B'; omega)).trans hc⟩⟩
theorem CodeIn.mono {w : World} {B B' : Nat} {a : Option Addr} {n : Nat} (h : CodeIn w B a n) (hB : B ≤ B') : CodeIn w B' a n := by
  rcases h with h | ⟨b, off, h1, h2, h3⟩
  · exact .inl h
  · exact .inr ⟨b, off, h1, by omega, h3⟩
/- A cursor at block c. -/
structure CurAt (w : World) (c : Nat) (a : Option Addr) (n cap i : Nat) (h : Int) : Prop where
  c0 : w.cell? ⟨c, 0, none⟩ = some (.slice a n cap)
  c1 : w.cell? ⟨c, 1, none⟩ = some (.int .i64 (i : Int))
  c2 : w.cell? ⟨c, 2, none⟩ = some (.int .i64 h)
  fz : ∀ o, w.frozen? ⟨c, o, none⟩ = false
  lt : c < w.heap.size
  le : i ≤ n
  len : n ≤ 281474976710656
  code : CodeIn w c a n
def Cur (w : World) (c : Nat) : Prop := ∃ a n cap i h, CurAt w c a n cap i h
theorem CurAt.below {w w' : World} {B c : Nat} {a : Option Addr} {n cap i : Nat} {h : Int} (H : CurAt w c a n cap i h) (hb : Below B w w') (hB : c < B) : CurAt w' c a n cap i h :=
  ⟨(hb.cell hB).trans H.c0, (hb.cell hB).trans H.c1, (hb.cell hB).trans H.c2, fun o => (hb.frozen (p := ⟨c, o, none⟩) hB).trans (H.fz o), Nat.lt_of_lt_of_le H.lt hb.size, H.le, H.len, H.code.below hb (by omega)⟩
theorem Cur.below {w w' : World} {B c : Nat} (H : Cur w c) (hb : Below B w w') (hB : c < B) : Cur w' c := by
  obtain ⟨a, n, cap, i, h, H⟩ := H
  exact ⟨a, n, cap, i, h, H.below hb hB⟩
theorem Cur.lt {w : World} {c : Nat} (H : Cur w c) : c < w.heap.size := by
  obtain ⟨a, n, cap, i, h, H⟩ := H
  exact H.lt
theorem i64_and255 (n : Int) : bits .and .i64 n 255 = n % 256 := by
  have h127 : (BitVec.ofInt 64 255).toNat = 2 ^ 8 - 1 := by decide
  have key : (BitVec.ofInt 64 n &&& BitVec.ofInt 64 255).toNat = (n % ((2 ^ 64 : Nat) : Int)).toNat % 2 ^ 8 := by
    rw [BitVec.toNat_and, BitVec.toNat_ofInt, h127, Nat.and_two_pow_sub_one_eq_mod]
  show IntKind.i64.wrap ((BitVec.ofInt 64 n &&& BitVec.ofInt 64 255).toNat : Nat) = n % 256
  rw [key, IntKind.wrap_i64]
  omega
theorem CurAt.drew {w : World} {c : Nat} {a : Option Addr} {n cap i : Nat} {h : Int} (H : CurAt w c a n cap i h) : CurAt w.drew c a n cap i h :=
  H.below (B := w.heap.size) (Below.refl _ w).drew H.lt
theorem CurAt.hash {w : World} {c : Nat} {a : Option Addr} {n cap i : Nat} {h : Int} (H : CurAt w c a n cap i h) (h' : Int) : CurAt (w.setCell ⟨c, 2, none⟩ (.int .i64 h')) c a n cap i h' := by
  have hn : ∀ i j : Nat, i ≠ j → (⟨c, i, none⟩ : Addr) ≠ ⟨c, j, none⟩ := fun i j hij e => hij (by injection e)
  have hb : Below c w (w.setCell ⟨c, 2, none⟩ (.int .i64 h')) := (Below.refl c w).setCell (by simp) _
  exact ⟨(World.cell?_setCell_other _ _ _ _ (hn _ _ (by omega))).trans H.c0, (World.cell?_setCell_other _ _ _ _ (hn _ _ (by omega))).trans H.c1, World.cell?_setCell_same _ _ _ H.c2,
    fun o => by simp [H.fz], by simpa [World.setCell] using H.lt, H.le, H.len, H.code.below hb (Nat.le_refl _)⟩
theorem CurAt.next {w : World} {c : Nat} {a : Option Addr} {n cap i : Nat} {h : Int} (H : CurAt w c a n cap i h) (j : Nat) (hj : j ≤ n) : CurAt (w.setCell ⟨c, 1, none⟩ (.int .i64 (j : Int))) c a n cap j h := by
  have hn : ∀ i j : Nat, i ≠ j → (⟨c, i, none⟩ : Addr) ≠ ⟨c, j, none⟩ := fun i j hij e => hij (by injection e)
  have hb : Below c w (w.setCell ⟨c, 1, none⟩ (.int .i64 (j : Int))) := (Below.refl c w).setCell (by simp) _
  exact ⟨(World.cell?_setCell_other _ _ _ _ (hn _ _ (by omega))).trans H.c0, World.cell?_setCell_same _ _ _ H.c1, (World.cell?_setCell_other _ _ _ _ (hn _ _ (by omega))).trans H.c2,
    fun o => by simp [H.fz], by simpa [World.setCell] using H.lt, hj, H.len, H.code.below hb (Nat.le_refl _)⟩

set_option maxHeartbeats 2000000 in
theorem byte_any (c : Nat) (w : World) (H : Cur w c) :
    Calls Tryz.prog 158 #[.pointer (some ⟨c, 0, none⟩)] w fun e w' => ∃ x : Int, e = .returned (.int .i64 x) ∧ 0 ≤ x ∧ x ≤ 255 ∧ Cur w' c ∧ Turns (fun k => k = c) w w' := by
  obtain ⟨a, n, cap, i, h, H⟩ := H
  have c0 := H.c0
  have c1 := H.c1
  have c2 := H.c2
  have hf := H.fz
  have hlen := H.len
  have hle := H.le
  have hand : ∀ m : Int, bits .and .i64 m 255 = m % 256 := i64_and255
  go_enter Tryz.func158, Tryz.ntmps158
  go_wp2_with fail
  go_region
  generalize wrap64 (wrap64 (h * 6364136223846793005) + 1442695040888963407) = h1
  generalize hx : bits BinOp.xor IntKind.i64 (h1 / 8589934592) (h1 / 35184372088832) % 256 = x0
  have hx0 : 0 ≤ x0 := by omega
  have hx1 : x0 ≤ 255 := by omega
  have H1 := (H.hash h1).drew
  have T1 : Turns (fun k => k = c) w (w.setCell ⟨c, 2, none⟩ (.int .i64 h1)).drew := ((Turns.refl (fun k => k = c) w).setCell (p := ⟨c, 2, none⟩) rfl _).drew
  generalize (w.setCell ⟨c, 2, none⟩ (.int .i64 h1)).drew = w1 at H1 T1 ⊢
  have HT1 : Hid (Turns (fun k => k = c) w w1) := T1
  clear c0 c1 c2 hf hx T1 H
  have d0 := H1.c0
  have d1 := H1.c1
  have d2 := H1.c2
  have df := H1.fz
  have HC1 : Hid (CurAt w1 c a n cap i h1) := H1
  by_cases hi : i < n
  · obtain ⟨b, off, rfl, hb, hz⟩ := H1.code.resolve_left (by omega)
    obtain ⟨z, hz1, hz2⟩ := hz i hi
    have hbc : ¬ b = c := by omega
    have hlt : (i : Int) < (n : Int) := by omega
    have hidx : (0 : Int) ≤ (i : Int) ∧ (i : Int) < (n : Int) := by omega
    have q0 : IntKind.i64.wrap (x0 + (z : Int)) = x0 + (z : Int) := by rw [IntKind.wrap_i64]; omega
    clear hz H1
    go_wp2_with fail
    go_region
    go_wp2_with fail
    go_region
    go_wp2
    go_ret
    refine ⟨_, rfl, by omega, by omega, ⟨_, _, _, _, _, (HC1.out.drew.drew.next (i + 1) (by omega))⟩, ?_⟩
    exact (HT1.out.drew.drew).setCell (p := ⟨c, 1, none⟩) rfl _
  · have hlt : ¬ (i : Int) < (n : Int) := by omega
    clear H1
    go_wp2_with fail
    go_region
    go_wp2
    go_ret
    exact ⟨_, rfl, hx0, hx1, ⟨_, _, _, _, _, HC1.out.drew⟩, HT1.out.drew⟩
end Go.Proofs.YtmpoffepoafblaaGreat

/- What is drawn out of a cursor: numbers below one, one of a list; a new cursor. -/
namespace Go.Proofs.YtmpoffepoafblaaGreat
open Go.RowKit

theorem i64_mask30 (n : Int) : bits .and .i64 n 1073741823 = n % 1073741824 := by
  have h127 : (BitVec.ofInt 64 1073741823).toNat = 2 ^ 30 - 1 := by decide
  have key : (BitVec.ofInt 64 n &&& BitVec.ofInt 64 1073741823).toNat = (n % ((2 ^ 64 : Nat) : Int)).toNat % 2 ^ 30 := by
    rw [BitVec.toNat_and, BitVec.toNat_ofInt, h127, Nat.and_two_pow_sub_one_eq_mod]
  show IntKind.i64.wrap ((BitVec.ofInt 64 n &&& BitVec.ofInt 64 1073741823).toNat : Nat) = n % 1073741824
  rw [key, IntKind.wrap_i64]
  omega
theorem tmod_in {x m : Int} (h : 0 ≤ x) (hm : 0 < m) : 0 ≤ Int.tmod x m ∧ Int.tmod x m < m := by
  rw [Int.tmod_eq_emod_of_nonneg h]
  exact ⟨Int.emod_nonneg _ (by omega), Int.emod_lt_of_pos _ hm⟩
theorem emod_in {x m : Int} (hm : 0 < m) : 0 ≤ x % m ∧ x % m < m := ⟨Int.emod_nonneg _ (by omega), Int.emod_lt_of_pos _ hm⟩

set_option maxHeartbeats 2000000 in
theorem below_any (c : Nat) (n : Int) (w : World) (H : Cur w c) :
    Calls Tryz.prog 82 #[.pointer (some ⟨c, 0, none⟩), .int .i64 n] w fun e w' => ∃ x : Int, e = .returned (.int .i64 x) ∧ 0 ≤ x ∧ (0 < n → x < n) ∧ Cur w' c ∧ Turns (fun k => k = c) w w' := by
  have HC : Hid (Cur w c) := H
  clear H
  by_cases h0 : n ≤ 0
  · go_enter Tryz.func82, Tryz.ntmps82
    go_wp2_with fail
    go_ret
    exact ⟨0, rfl, by omega, by omega, HC.out, Turns.refl _ _⟩
  · have h0' : ¬ n ≤ 0 := h0
    have hn0 : ¬ n = 0 := by omega
    by_cases h1 : n ≤ 256
    · go_enter Tryz.func82, Tryz.ntmps82
      go_wp2_with (go_at_call 158; refine (byte_any c _ HC.out).mono ?_; rintro e w1 ⟨x, rfl, hx0, hx1, hC1, hT1⟩)
      go_ret
      exact ⟨_, rfl, (by first | exact (emod_in (by omega)).1 | exact (tmod_in hx0 (by omega)).1), fun hn => (by first | exact (emod_in (by omega)).2 | exact (tmod_in hx0 (by omega)).2), hC1, hT1⟩
    · go_enter Tryz.func82, Tryz.ntmps82
      go_wp2_with fail
      refine (byte_any c _ HC.out).mono ?_
      rintro e w1 ⟨x, rfl, hx0, hx1, hC1, hT1⟩
      have HC1 : Hid (Cur w1 c) := hC1
      have HT1 : Hid (Turns (fun k => k = c) w w1) := hT1
      clear hC1 hT1
      go_wp2_with fail
      refine (byte_any c _ HC1.out).mono ?_
      rintro e w2 ⟨y, rfl, hy0, hy1, hC2, hT2⟩
      have HC2 : Hid (Cur w2 c) := hC2
      have HT2 : Hid (Turns (fun k => k = c) w w2) := HT1.out.trans hT2
      clear hC2 hT2
      go_wp2_with fail
      refine (byte_any c _ HC2.out).mono ?_
      rintro e w3 ⟨z, rfl, hz0, hz1, hC3, hT3⟩
      have HC3 : Hid (Cur w3 c) := hC3
      have HT3 : Hid (Turns (fun k => k = c) w w3) := HT2.out.trans hT3
      clear hC3 hT3
      go_wp2_with fail
      refine (byte_any c _ HC3.out).mono ?_
      rintro e w4 ⟨t, rfl, ht0, ht1, hC4, hT4⟩
      have HC4 : Hid (Cur w4 c) := hC4
      have HT4 : Hid (Turns (fun k => k = c) w w4) := HT3.out.trans hT4
      clear hC4 hT4
      go_wp2
      go_ret
      exact ⟨_, rfl, (by first | exact (emod_in (by omega)).1 | exact (tmod_in (by omega) (by omega)).1), fun hn => (by first | exact (emod_in (by omega)).2 | exact (tmod_in (by omega) (by omega)).2), HC4.out, HT4.out⟩

/- A list of numbers at the head of block g. -/
def ListAt (w : World) (g m : Nat) (P : Int → Prop) : Prop := g < w.heap.size ∧ ∀ j, j < m → ∃ y : Int, P y ∧ w.cell? ⟨g, j, none⟩ = some (.int .i64 y)
theorem ListAt.turns {w w' : World} {S : Nat → Prop} {g m : Nat} {P : Int → Prop} (h : ListAt w g m P) (ht : Turns S w w') (hS : ¬ S g) : ListAt w' g m P :=
  ⟨Nat.lt_of_lt_of_le h.1 ht.size, fun j hj => by obtain ⟨y, hy, hc⟩ := h.2 j hj; exact ⟨y, hy, (ht.cell h.1 hS).trans hc⟩⟩

set_option maxHeartbeats 2000000 in
theorem pick_any (c g m : Nat) (P : Int → Prop) (w : World) (hm : 0 < m) (hm' : m ≤ 1000) (hg : ¬ g = c) (H : Cur w c) (L : ListAt w g m P) :
    Calls Tryz.prog 157 #[.pointer (some ⟨c, 0, none⟩), .slice (some ⟨g, 0, none⟩) m m] w fun e w' => ∃ y : Int, e = .returned (.int .i64 y) ∧ P y ∧ Cur w' c ∧ Turns (fun k => k = c) w w' := by
  have HC : Hid (Cur w c) := H
  have HL : Hid (ListAt w g m P) := L
  clear H L
  go_enter Tryz.func157, Tryz.ntmps157
  go_wp2_with fail
  refine (below_any c _ _ HC.out).mono ?_
  rintro e w1 ⟨x, rfl, hx0, hx1, hC1, hT1⟩
  have hx2 := hx1 (by omega)
  obtain ⟨k, rfl⟩ : ∃ k : Nat, x = (k : Int) := ⟨x.toNat, by omega⟩
  have hk : k < m := by omega
  have hidx : (0 : Int) ≤ (k : Int) ∧ (k : Int) < (m : Int) := by omega
  obtain ⟨y, hy, hc⟩ := (HL.out.turns hT1 hg).2 k hk
  have HY : Hid (P y) := hy
  have HC1 : Hid (Cur w1 c) := hC1
  have HT1 : Hid (Turns (fun k => k = c) w w1) := hT1
  clear hx1 hx2 hC1 hT1 hy
  go_wp2
  go_ret
  exact ⟨y, rfl, HY.out, HC1.out, HT1.out⟩

set_option maxHeartbeats 2000000 in
theorem new_any (a : Option Addr) (n cap : Nat) (w : World) (hn : n ≤ 281474976710656) (hC : CodeIn w w.heap.size a n) :
    Calls Tryz.prog 77 #[.slice a n cap] w fun e w' => ∃ c, e = .returned (.pointer (some ⟨c, 0, none⟩)) ∧ w.heap.size ≤ c ∧ Cur w' c ∧ Below w.heap.size w w' := by
  have HC : Hid (CodeIn w w.heap.size a n) := hC
  clear hC
  have hand : ∀ m : Int, bits .and .i64 m 1073741823 = m % 1073741824 := i64_mask30
  go_enter Tryz.func77, Tryz.ntmps77
  go_wp2
  go_loop [3, 4] (fun h i => ∃ (k : Nat) (x : Int), k ≤ n ∧ i = .int .i64 k ∧ h = .int .i64 x) (fun _ i => n - (intOf i).toNat)
  case atStart => exact ⟨0, _, Nat.zero_le _, rfl, rfl⟩
  case round =>
    obtain ⟨k, x, hk, rfl, rfl⟩ := hrel
    by_cases hlt : k < n
    · by_cases h4 : k < 4000
      · obtain ⟨b, off, rfl, hb, hz⟩ := HC.out.resolve_left (by omega)
        obtain ⟨z, hz1, hz2⟩ := hz k hlt
        have a1 : (k : Int) < (n : Int) := by omega
        have a2 : (k : Int) < 4000 := by omega
        have hidx : (0 : Int) ≤ (k : Int) ∧ (k : Int) < (n : Int) := by omega
        clear hz
        go_wp2
        go_round
        case rel => exact ⟨k + 1, _, by omega, by go_num, rfl⟩
        case measure => simp [intOf]; omega
      · have a1 : (k : Int) < (n : Int) := by omega
        have a2 : ¬ (k : Int) < 4000 := by omega
        go_wp2
        go_ret
        refine ⟨_, rfl, Nat.le_refl _, ⟨a, n, cap, 0, x, ?_⟩, (Below.refl _ w).alloc (Nat.le_refl _) _⟩
        exact ⟨by simp, by simp, by simp, fun o => by simp, by simp, Nat.zero_le _, hn, HC.out.below ((Below.refl _ w).alloc (Nat.le_refl _) _) (Nat.le_refl _)⟩
    · have a1 : ¬ (k : Int) < (n : Int) := by omega
      go_wp2
      go_ret
      refine ⟨_, rfl, Nat.le_refl _, ⟨a, n, cap, 0, x, ?_⟩, (Below.refl _ w).alloc (Nat.le_refl _) _⟩
      exact ⟨by simp, by simp, by simp, fun o => by simp, by simp, Nat.zero_le _, hn, HC.out.below ((Below.refl _ w).alloc (Nat.le_refl _) _) (Nat.le_refl _)⟩
end Go.Proofs.YtmpoffepoafblaaGreat

