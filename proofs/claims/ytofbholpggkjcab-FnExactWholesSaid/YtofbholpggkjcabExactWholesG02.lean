/- VMeet, VSpec, VBox, VWh, VOpen -/
import Derived.Test.YtofbholpggkjcabExactWholesG01
import Derived.Test.YtofbholpggkjcabExactWholesG00
import Derived.ProofKit
import Derived.ChangeOld
import Derived.OpenShut
import Derived.SizedLaws
/- Vectors: the program's meets and refines, the specification's l6meet. -/
namespace Go.Proofs.Ytofbholpggkjcab
open Go.RowKit
/- Two numbers that may be of one run. -/
def mB (a b : Int) : Bool := decide (a = -1) || decide (b = -1) || decide (a = b)
def rB (a b : Int) : Bool := decide (b = -1) || decide (a = b)
def meetB (l r : List Int) : Bool := (List.range 4).all fun j => mB (intAt l j) (intAt r j)
def refB (l r : List Int) : Bool := (List.range 4).all fun j => rB (intAt l j) (intAt r j)
theorem all4_yes {f : Nat → Bool} (h : ∀ j, j < 4 → f j = true) : (List.range 4).all f = true := by
  rw [List.all_eq_true]; intro x hx; exact h x (by simpa using hx)
theorem all4_no {f : Nat → Bool} {j : Nat} (hj : j < 4) (h : f j = false) : (List.range 4).all f = false := by
  rw [List.all_eq_false]; exact ⟨j, by simpa using hj, by simp [h]⟩
theorem ints_alloc (w : World) (a b c d : Int) (t : TypeId) : IntsAt (w.alloc (.cells #[i64 a, i64 b, i64 c, i64 d] t)) w.heap.size 0 [a, b, c, d] := by
  refine ⟨by simp, fun i hi => ?_⟩
  have hi4 : i = 0 ∨ i = 1 ∨ i = 2 ∨ i = 3 := by simp at hi; omega
  have hh : (w.alloc (.cells #[i64 a, i64 b, i64 c, i64 d] t)).heap[w.heap.size]? = some (.cells #[i64 a, i64 b, i64 c, i64 d] t) := by
    show (w.heap.push _)[w.heap.size]? = _
    simp
  rcases hi4 with rfl | rfl | rfl | rfl <;> (unfold World.cell?; simp only [hh]; rfl)

set_option maxHeartbeats 4000000 in
theorem meets_any (a0 a1 a2 a3 b0 b1 b2 b3 : Int) (w : World) :
    Calls Try.prog 29 #[vec a0 a1 a2 a3, vec b0 b1 b2 b3] w fun e w' => e = .returned (.bool (meetB [a0, a1, a2, a3] [b0, b1, b2, b3])) ∧ Below w.heap.size w w' := by
  go_enter Try.func29, Try.ntmps29
  go_wp2
  go_loopw [6] (fun i wr => ∃ k : Nat, k ≤ 4 ∧ i = .int .i64 k ∧ Below w.heap.size w wr ∧ IntsAt wr w.heap.size 0 [a0, a1, a2, a3] ∧ IntsAt wr (w.heap.size + 1) 0 [b0, b1, b2, b3] ∧ ∀ j, j < k → mB (intAt [a0, a1, a2, a3] j) (intAt [b0, b1, b2, b3] j) = true) (fun i _ => 4 - (intOf i).toNat)
  case atStart =>
    have h1 := ints_alloc w a0 a1 a2 a3 37
    have h2 := ints_alloc (w.alloc (cell4 a0 a1 a2 a3)) b0 b1 b2 b3 37
    rw [show (w.alloc (cell4 a0 a1 a2 a3)).heap.size = w.heap.size + 1 by simp] at h2
    refine ⟨0, by omega, rfl, ((Below.refl _ w).alloc (Nat.le_refl _) _).alloc (by simp) _, h1.below ((Below.refl (w.heap.size + 1) _).alloc (by simp) _) (by omega), h2, fun j hj => by omega⟩
  case round =>
    obtain ⟨k, hk, rfl, hB, hI, hJ, hall⟩ := hrel
    have HB : Hid (Below w.heap.size w wr) := hB
    have HI : Hid (IntsAt wr w.heap.size 0 [a0, a1, a2, a3]) := hI
    have HJ : Hid (IntsAt wr (w.heap.size + 1) 0 [b0, b1, b2, b3]) := hJ
    have HA : Hid (∀ j, j < k → mB (intAt [a0, a1, a2, a3] j) (intAt [b0, b1, b2, b3] j) = true) := hall
    clear hB hI hJ hall
    by_cases hlt : k < 4
    · obtain ⟨x, hx⟩ : ∃ x, x = intAt [a0, a1, a2, a3] k := ⟨_, rfl⟩
      obtain ⟨y, hy⟩ : ∃ y, y = intAt [b0, b1, b2, b3] k := ⟨_, rfl⟩
      have fx := Beyond.ints0 HI.out (k := k) hlt hx
      have fy := Beyond.ints0 HJ.out (k := k) hlt hy
      have HX : Hid (x = intAt [a0, a1, a2, a3] k) := hx
      have HY : Hid (y = intAt [b0, b1, b2, b3] k) := hy
      clear hx hy
      have hki : (k : Int) < 4 := by omega
      by_cases e1 : x = -1
      case pos =>
        have d1 : (x != (-1 : Int)) = false := by simp [e1]
        have HF : Hid (mB x y = true) := by show _ = _; simp [mB, *]
        clear e1
        go_wp2_with fail
        refine wp_region_beyond (by kernel_rfl) (by kernel_rfl) ?_
        repeat (go_big_quiet_step (fail))
        refine wpQuiet_nil ?_
        rintro w2 ⟨⟨_, hb2⟩, rfl⟩
        clear fx fy
        go_wp2
        go_roundw
        case rel => exact ⟨k + 1, by omega, by go_num, HB.out.trans (hb2.mono HB.out.size), HI.out.below hb2 HI.out.1, HJ.out.below hb2 HJ.out.1, fun j hj => by
          by_cases e : j < k
          · exact HA.out j e
          · rw [show j = k by omega, ← HX.out, ← HY.out]; exact HF.out⟩
        case measure => simp [intOf]; omega
      have d1 : (x != (-1 : Int)) = true := by simp [e1]
      by_cases e2 : y = -1
      case pos =>
        have d2 : (y != (-1 : Int)) = false := by simp [e2]
        have HF : Hid (mB x y = true) := by show _ = _; simp [mB, *]
        clear e1 e2
        go_wp2_with fail
        refine wp_region_beyond (by kernel_rfl) (by kernel_rfl) ?_
        repeat (go_big_quiet_step (fail))
        refine wpQuiet_nil ?_
        rintro w2 ⟨⟨_, hb2⟩, rfl⟩
        clear fx fy
        go_wp2
        go_roundw
        case rel => exact ⟨k + 1, by omega, by go_num, HB.out.trans (hb2.mono HB.out.size), HI.out.below hb2 HI.out.1, HJ.out.below hb2 HJ.out.1, fun j hj => by
          by_cases e : j < k
          · exact HA.out j e
          · rw [show j = k by omega, ← HX.out, ← HY.out]; exact HF.out⟩
        case measure => simp [intOf]; omega
      have d2 : (y != (-1 : Int)) = true := by simp [e2]
      by_cases e3 : x = y
      case pos =>
        have d3 : (x != y) = false := by simp [e3]
        have HF : Hid (mB x y = true) := by show _ = _; simp [mB, *]
        clear e1 e2 e3
        go_wp2_with fail
        refine wp_region_beyond (by kernel_rfl) (by kernel_rfl) ?_
        repeat (go_big_quiet_step (fail))
        refine wpQuiet_nil ?_
        rintro w2 ⟨⟨_, hb2⟩, rfl⟩
        clear fx fy
        go_wp2
        go_roundw
        case rel => exact ⟨k + 1, by omega, by go_num, HB.out.trans (hb2.mono HB.out.size), HI.out.below hb2 HI.out.1, HJ.out.below hb2 HJ.out.1, fun j hj => by
          by_cases e : j < k
          · exact HA.out j e
          · rw [show j = k by omega, ← HX.out, ← HY.out]; exact HF.out⟩
        case measure => simp [intOf]; omega
      have d3 : (x != y) = true := by simp [e3]
      have HF : Hid (mB x y = false) := by show _ = _; simp [mB, *]
      clear e1 e2 e3
      go_wp2_with fail
      refine wp_region_beyond (by kernel_rfl) (by kernel_rfl) ?_
      repeat (go_big_quiet_step (fail))
      refine wpQuiet_nil ?_
      rintro w2 ⟨⟨_, hb2⟩, rfl⟩
      clear fx fy
      go_wp2
      go_ret
      exact ⟨ret_bool (all4_no hlt (by rw [← HX.out, ← HY.out]; exact HF.out)).symm, HB.out.trans (hb2.mono HB.out.size)⟩
    · go_wp2
      go_ret
      exact ⟨ret_bool (all4_yes (fun j hj => HA.out j (by omega))).symm, HB.out⟩

set_option maxHeartbeats 4000000 in
theorem refines_any (a0 a1 a2 a3 b0 b1 b2 b3 : Int) (w : World) :
    Calls Try.prog 28 #[vec a0 a1 a2 a3, vec b0 b1 b2 b3] w fun e w' => e = .returned (.bool (refB [a0, a1, a2, a3] [b0, b1, b2, b3])) ∧ Below w.heap.size w w' := by
  go_enter Try.func28, Try.ntmps28
  go_wp2
  go_loopw [6] (fun i wr => ∃ k : Nat, k ≤ 4 ∧ i = .int .i64 k ∧ Below w.heap.size w wr ∧ IntsAt wr w.heap.size 0 [a0, a1, a2, a3] ∧ IntsAt wr (w.heap.size + 1) 0 [b0, b1, b2, b3] ∧ ∀ j, j < k → rB (intAt [a0, a1, a2, a3] j) (intAt [b0, b1, b2, b3] j) = true) (fun i _ => 4 - (intOf i).toNat)
  case atStart =>
    have h1 := ints_alloc w a0 a1 a2 a3 37
    have h2 := ints_alloc (w.alloc (cell4 a0 a1 a2 a3)) b0 b1 b2 b3 37
    rw [show (w.alloc (cell4 a0 a1 a2 a3)).heap.size = w.heap.size + 1 by simp] at h2
    refine ⟨0, by omega, rfl, ((Below.refl _ w).alloc (Nat.le_refl _) _).alloc (by simp) _, h1.below ((Below.refl (w.heap.size + 1) _).alloc (by simp) _) (by omega), h2, fun j hj => by omega⟩
  case round =>
    obtain ⟨k, hk, rfl, hB, hI, hJ, hall⟩ := hrel
    have HB : Hid (Below w.heap.size w wr) := hB
    have HI : Hid (IntsAt wr w.heap.size 0 [a0, a1, a2, a3]) := hI
    have HJ : Hid (IntsAt wr (w.heap.size + 1) 0 [b0, b1, b2, b3]) := hJ
    have HA : Hid (∀ j, j < k → rB (intAt [a0, a1, a2, a3] j) (intAt [b0, b1, b2, b3] j) = true) := hall
    clear hB hI hJ hall
    by_cases hlt : k < 4
    · obtain ⟨x, hx⟩ : ∃ x, x = intAt [a0, a1, a2, a3] k := ⟨_, rfl⟩
      obtain ⟨y, hy⟩ : ∃ y, y = intAt [b0, b1, b2, b3] k := ⟨_, rfl⟩
      have fx := Beyond.ints0 HI.out (k := k) hlt hx
      have fy := Beyond.ints0 HJ.out (k := k) hlt hy
      have HX : Hid (x = intAt [a0, a1, a2, a3] k) := hx
      have HY : Hid (y = intAt [b0, b1, b2, b3] k) := hy
      clear hx hy
      have hki : (k : Int) < 4 := by omega
      by_cases e2 : y = -1
      case pos =>
        have d2 : (y != (-1 : Int)) = false := by simp [e2]
        have HF : Hid (rB x y = true) := by show _ = _; simp [rB, *]
        clear e2
        go_wp2_with fail
        refine wp_region_beyond (by kernel_rfl) (by kernel_rfl) ?_
        repeat (go_big_quiet_step (fail))
        refine wpQuiet_nil ?_
        rintro w2 ⟨⟨_, hb2⟩, rfl⟩
        clear fx fy
        go_wp2
        go_roundw
        case rel => exact ⟨k + 1, by omega, by go_num, HB.out.trans (hb2.mono HB.out.size), HI.out.below hb2 HI.out.1, HJ.out.below hb2 HJ.out.1, fun j hj => by
          by_cases e : j < k
          · exact HA.out j e
          · rw [show j = k by omega, ← HX.out, ← HY.out]; exact HF.out⟩
        case measure => simp [intOf]; omega
      have d2 : (y != (-1 : Int)) = true := by simp [e2]
      by_cases e3 : x = y
      case pos =>
        have d3 : (x != y) = false := by simp [e3]
        have HF : Hid (rB x y = true) := by show _ = _; simp [rB, *]
        clear e2 e3
        go_wp2_with fail
        refine wp_region_beyond (by kernel_rfl) (by kernel_rfl) ?_
        repeat (go_big_quiet_step (fail))
        refine wpQuiet_nil ?_
        rintro w2 ⟨⟨_, hb2⟩, rfl⟩
        clear fx fy
        go_wp2
        go_roundw
        case rel => exact ⟨k + 1, by omega, by go_num, HB.out.trans (hb2.mono HB.out.size), HI.out.below hb2 HI.out.1, HJ.out.below hb2 HJ.out.1, fun j hj => by
          by_cases e : j < k
          · exact HA.out j e
          · rw [show j = k by omega, ← HX.out, ← HY.out]; exact HF.out⟩
        case measure => simp [intOf]; omega
      have d3 : (x != y) = true := by simp [e3]
      have HF : Hid (rB x y = false) := by show _ = _; simp [rB, *]
      clear e2 e3
      go_wp2_with fail
      refine wp_region_beyond (by kernel_rfl) (by kernel_rfl) ?_
      repeat (go_big_quiet_step (fail))
      refine wpQuiet_nil ?_
      rintro w2 ⟨⟨_, hb2⟩, rfl⟩
      clear fx fy
      go_wp2
      go_ret
      exact ⟨ret_bool (all4_no hlt (by rw [← HX.out, ← HY.out]; exact HF.out)).symm, HB.out.trans (hb2.mono HB.out.size)⟩
    · go_wp2
      go_ret
      exact ⟨ret_bool (all4_yes (fun j hj => HA.out j (by omega))).symm, HB.out⟩

end Go.Proofs.Ytofbholpggkjcab

/- Vectors: the specification's Meets and Refines. -/
namespace Go.Proofs.Ytofbholpggkjcab
open Go.RowKit
theorem vok_at {l : List Int} (h : vok l = true) (j : Nat) (hj : j < 4) : -1 ≤ intAt l j ∧ intAt l j ≤ 1 := by
  obtain ⟨a, b, c, d, rfl, h0, h1, h2, h3⟩ := vok_four h
  have hj4 : j = 0 ∨ j = 1 ∨ j = 2 ∨ j = 3 := by omega
  rcases hj4 with rfl | rfl | rfl | rfl
  · exact h0
  · exact h1
  · exact h2
  · exact h3
theorem vok_len4 {l : List Int} (h : vok l = true) : l.length = 4 := by
  simp only [vok, Bool.and_eq_true, decide_eq_true_eq] at h; exact h.2
theorem IsI.four {w : World} {x : Value} {l : List Int} (h : IsI w x l) (hl : l.length = 4) : ∃ b off cap, x = .slice (some ⟨b, off, none⟩) 4 cap ∧ IntsAt w b off l := by
  obtain ⟨a, cap, rfl, _, _, h⟩ := h
  obtain ⟨b, off, rfl, h'⟩ := h.resolve_left (by rintro rfl; simp at hl)
  exact ⟨b, off, cap, by rw [hl], h'⟩
end Go.Proofs.Ytofbholpggkjcab

/- Vectors: an array of four numbers in a block of its own. -/
namespace Go.Proofs.Ytofbholpggkjcab
open Go.RowKit
def V4 (w : World) (g : Nat) (a b c d : Int) : Prop := w.heap[g]? = some (cell4 a b c d)
theorem V4.new (w : World) (a b c d : Int) : V4 (w.alloc (cell4 a b c d)) w.heap.size a b c d := by
  show (w.heap.push _)[w.heap.size]? = _
  simp
theorem V4.keep {w w' : World} {B g : Nat} {a b c d : Int} (h : V4 w g a b c d) (hb : Below B w w') (hg : g < B) : V4 w' g a b c d := (hb.block g hg).trans h
theorem V4.lt {w : World} {g : Nat} {a b c d : Int} (h : V4 w g a b c d) : g < w.heap.size := (Array.getElem?_eq_some_iff.1 h).1
theorem V4.alloc {w : World} {g : Nat} {a b c d : Int} (h : V4 w g a b c d) (o : Obj) : V4 (w.alloc o) g a b c d := h.keep ((Below.refl w.heap.size w).alloc (Nat.le_refl _) o) h.lt
theorem V4.cells {w : World} {g : Nat} {a b c d : Int} (h : V4 w g a b c d) :
    w.cell? ⟨g, 0, none⟩ = some (.int .i64 a) ∧ w.cell? ⟨g, 1, none⟩ = some (.int .i64 b) ∧ w.cell? ⟨g, 2, none⟩ = some (.int .i64 c) ∧ w.cell? ⟨g, 3, none⟩ = some (.int .i64 d) ∧ (∀ o, w.frozen? ⟨g, o, none⟩ = false) := by
  have h' : w.heap[g]? = some (.cells #[i64 a, i64 b, i64 c, i64 d] 37) := h
  refine ⟨?_, ?_, ?_, ?_, fun o => ?_⟩
  · unfold World.cell?; simp only [h']; rfl
  · unfold World.cell?; simp only [h']; rfl
  · unfold World.cell?; simp only [h']; rfl
  · unfold World.cell?; simp only [h']; rfl
  · unfold World.frozen?; simp only [h']; simp
theorem V4.ints {w : World} {g : Nat} {a b c d : Int} (h : V4 w g a b c d) : IntsAt w g 0 [a, b, c, d] := by
  obtain ⟨h0, h1, h2, h3, _⟩ := h.cells
  refine ⟨h.lt, fun i hi => ?_⟩
  have hi4 : i = 0 ∨ i = 1 ∨ i = 2 ∨ i = 3 := by simp at hi; omega
  rcases hi4 with rfl | rfl | rfl | rfl
  · exact h0
  · exact h1
  · exact h2
  · exact h3
abbrev put4 (w : World) (g : Nat) (a b c d : Int) : World := (((w.setCell ⟨g, 0, none⟩ (.int .i64 a)).setCell ⟨g, 1, none⟩ (.int .i64 b)).setCell ⟨g, 2, none⟩ (.int .i64 c)).setCell ⟨g, 3, none⟩ (.int .i64 d)
theorem put4_below {B : Nat} {a w : World} (h : Below B a w) {g : Nat} (hg : B ≤ g) (x0 x1 x2 x3 : Int) : Below B a (put4 w g x0 x1 x2 x3) :=
  (((h.setCell (p := ⟨g, 0, none⟩) hg _).setCell (p := ⟨g, 1, none⟩) hg _).setCell (p := ⟨g, 2, none⟩) hg _).setCell (p := ⟨g, 3, none⟩) hg _
theorem put4_size (w : World) (g : Nat) (x0 x1 x2 x3 : Int) : (put4 w g x0 x1 x2 x3).heap.size = w.heap.size := by simp
theorem V4.put {w : World} {g : Nat} {a b c d : Int} (h : V4 w g a b c d) (x0 x1 x2 x3 : Int) : V4 (put4 w g x0 x1 x2 x3) g x0 x1 x2 x3 := by
  have h' : w.heap[g]? = some (.cells #[i64 a, i64 b, i64 c, i64 d] 37) := h
  obtain ⟨hl, hv⟩ := Array.getElem?_eq_some_iff.1 h'
  unfold V4 put4
  simp [World.setCell, hl, Array.getElem_modify, hv]
theorem V4.other {w : World} {g k : Nat} {a b c d : Int} (h : V4 w g a b c d) (hk : g ≠ k) (x0 x1 x2 x3 : Int) : V4 (put4 w k x0 x1 x2 x3) g a b c d := by
  have e : (put4 w k x0 x1 x2 x3).heap[g]? = w.heap[g]? := by
    unfold put4
    rw [Below.heap_setCell _ _ _ _ hk, Below.heap_setCell _ _ _ _ hk, Below.heap_setCell _ _ _ _ hk, Below.heap_setCell _ _ _ _ hk]
  exact e.trans h
end Go.Proofs.Ytofbholpggkjcab

/- Vectors: both Wholes. -/
namespace Go.Proofs.Ytofbholpggkjcab
open Go.RowKit
def whN (l : List Int) : Int := l.foldl (fun n z => if z = -1 then 2 * n else n) 1
theorem whN_next {l : List Int} {k : Nat} (h : k < l.length) {z : Int} (hz : z = intAt l k) : whN (l.take (k + 1)) = if z = -1 then 2 * whN (l.take k) else whN (l.take k) := by
  have e : l.take (k + 1) = l.take k ++ [z] := by rw [List.take_add_one, hz]; simp [intAt, h]
  rw [e]; simp [whN]
theorem whN_low (l : List Int) : 1 ≤ whN l ∧ whN l ≤ 2 ^ l.length := by
  have : ∀ (l : List Int) (n : Int), 1 ≤ n → n ≤ l.foldl (fun n z => if z = -1 then 2 * n else n) n ∧ l.foldl (fun n z => if z = -1 then 2 * n else n) n ≤ n * 2 ^ l.length := by
    intro l
    induction l with
    | nil => intro n _; simp
    | cons z r ih =>
      intro n hn
      simp only [List.foldl_cons, List.length_cons, Int.pow_succ]
      have hp : (0 : Int) < 2 ^ r.length := Int.pow_pos (by omega)
      split
      · have := ih (2 * n) (by omega)
        rw [show n * (2 ^ r.length * 2) = 2 * n * 2 ^ r.length by rw [Int.mul_comm (2 ^ r.length) 2, ← Int.mul_assoc, Int.mul_comm n 2]]
        omega
      · have := ih n hn
        have h2 : n * 2 ^ r.length ≤ n * (2 ^ r.length * 2) := Int.mul_le_mul_of_nonneg_left (by omega) (by omega)
        omega
  have h := this l 1 (by omega)
  unfold whN; omega
theorem whN_small {l : List Int} {k : Nat} (hl : l.length = 4) (hk : k < 4) : 1 ≤ whN (l.take k) ∧ whN (l.take k) ≤ 8 := by
  have h := whN_low (l.take k)
  have e : (l.take k).length = k := by simp; omega
  rw [e] at h
  have hk4 : k = 0 ∨ k = 1 ∨ k = 2 ∨ k = 3 := by omega
  rcases hk4 with rfl | rfl | rfl | rfl <;> exact ⟨h.1, Int.le_trans h.2 (by decide)⟩
set_option maxHeartbeats 2000000 in
theorem sWholesYes (b off cap : Nat) (l : List Int) (w : World) (hl : l.length = 4) (hv : ∀ j, j < 4 → -1 ≤ intAt l j) (hI : IntsAt w b off l) (H : Calls Try.prog 19 #[.slice (some ⟨b, off, none⟩) 4 cap] w fun e w' => e = .returned (.bool true) ∧ w' = w) :
    Calls Try.prog 6 #[.slice (some ⟨b, off, none⟩) 4 cap] w fun e w' => e = .returned (.int .i64 (whN l)) ∧ Below w.heap.size w w' := by
  have HL : Hid (l.length = 4) := hl
  have HV : Hid (∀ j, j < 4 → -1 ≤ intAt l j) := hv
  have HI : Hid (IntsAt w b off l) := hI
  have H' : Hid (Calls Try.prog 19 #[.slice (some ⟨b, off, none⟩) 4 cap] w fun e w' => e = .returned (.bool true) ∧ w' = w) := H
  clear hl hv hI H
  go_enter Try.func6, Try.ntmps6
  go_wp2_with fail
  refine H'.out.mono ?_
  rintro e w1 ⟨rfl, hw⟩
  obtain rfl := hw.symm
  go_wp2
  go_loop [3, 4] (fun n i => ∃ (k : Nat) (N : Int), k ≤ 4 ∧ i = .int .i64 k ∧ n = .int .i64 N ∧ Hid (N = whN (l.take k))) (fun _ i => 4 - (intOf i).toNat)
  case atStart => exact ⟨0, 1, by omega, rfl, rfl, rfl⟩
  case round =>
    obtain ⟨k, N, hk, rfl, rfl, HN⟩ := hrel
    by_cases hlt : k < 4
    · have hki : (k : Int) < 4 := by omega
      have hkl : k < l.length := by rw [HL.out]; exact hlt
      have f0 := HI.out.2 k hkl
      obtain ⟨z, hz⟩ : ∃ z, z = intAt l k := ⟨_, rfl⟩
      have HX : Hid (whN (l.take (k + 1)) = if z = -1 then 2 * N else N) := by have := whN_next hkl hz; rw [← HN.out] at this; exact this
      have hb := whN_small HL.out hlt
      rw [← HN.out] at hb
      have hz1 : -1 ≤ z := hz ▸ HV.out k hlt
      rw [← hz] at f0
      have hN1 : 1 ≤ N := hb.1
      have hN2 : N ≤ 8 := hb.2
      clear hz hb hkl HN
      by_cases hz0 : z < 0
      · have HE : Hid (z = -1) := by show z = -1; omega
        go_wp2
        go_round
        case rel => exact ⟨k + 1, 2 * N, by omega, by go_num, by go_num, by show _ = _; rw [HX.out, if_pos HE.out]⟩
        case measure => simp [intOf]; omega
      · have HE : Hid (¬ z = -1) := by show ¬ z = -1; omega
        go_wp2
        go_round
        case rel => exact ⟨k + 1, N, by omega, by go_num, rfl, by show _ = _; rw [HX.out, if_neg HE.out]⟩
        case measure => simp [intOf]; omega
    · have e4 : l.take k = l := by rw [show k = 4 by omega, ← HL.out]; exact List.take_length
      have HE : Hid (N = whN l) := by have := HN.out; rw [e4] at this; exact this
      clear HN e4
      go_wp2
      go_ret
      exact ⟨ret_int HE.out, Below.refl _ _⟩
theorem sWholes_any (x : Value) (l : List Int) (w : World) (hl : l.length ≤ 4611686018427387904) (h : IsI w x l) :
    Calls Try.prog 6 #[x] w fun e w' => e = .returned (.int .i64 (if vok l = true then whN l else 0)) ∧ Below w.heap.size w w' := by
  have H : Hid (Calls Try.prog 19 #[x] w fun e w' => e = .returned (.bool (vok l)) ∧ w' = w) := sVok_any x l w hl h
  cases hv : vok l with
  | false =>
    rw [hv] at H
    clear h
    go_enter Try.func6, Try.ntmps6
    go_wp2_with fail
    refine H.out.mono ?_
    rintro e w1 ⟨rfl, hw⟩
    obtain rfl := hw.symm
    go_wp2
    go_ret
    exact ⟨rfl, Below.refl _ _⟩
  | true =>
    rw [hv] at H
    obtain ⟨b, off, cap, rfl, hI⟩ := h.four (vok_len4 hv)
    exact sWholesYes b off cap l w (vok_len4 hv) (fun j hj => (vok_at hv j hj).1) hI H.out

set_option maxRecDepth 100000 in
set_option maxHeartbeats 2000000 in
theorem wholes_any (a0 a1 a2 a3 : Int) (w : World) :
    Calls Try.prog 21 #[vec a0 a1 a2 a3] w fun e w' => e = .returned (.int .i64 (whN [a0, a1, a2, a3])) ∧ Below w.heap.size w w' := by
  have j0 : ∀ w : World, (Instr.index 37 (.agg #[.int .i64 a0, .int .i64 a1, .int .i64 a2, .int .i64 a3]) (.int .i64 0)).run Try.prog w = .ok (.int .i64 a0) w := fun _ => by kernel_rfl
  have j1 : ∀ w : World, (Instr.index 37 (.agg #[.int .i64 a0, .int .i64 a1, .int .i64 a2, .int .i64 a3]) (.int .i64 1)).run Try.prog w = .ok (.int .i64 a1) w := fun _ => by kernel_rfl
  have j2 : ∀ w : World, (Instr.index 37 (.agg #[.int .i64 a0, .int .i64 a1, .int .i64 a2, .int .i64 a3]) (.int .i64 2)).run Try.prog w = .ok (.int .i64 a2) w := fun _ => by kernel_rfl
  have j3 : ∀ w : World, (Instr.index 37 (.agg #[.int .i64 a0, .int .i64 a1, .int .i64 a2, .int .i64 a3]) (.int .i64 3)).run Try.prog w = .ok (.int .i64 a3) w := fun _ => by kernel_rfl
  have HB0 : Hid (Below w.heap.size w (w.alloc (cell4 a0 a1 a2 a3))) := (Below.refl _ w).alloc (Nat.le_refl _) _
  go_enter Try.func21, Try.ntmps21
  go_wp2
  generalize w.alloc (cell4 a0 a1 a2 a3) = W0 at HB0 ⊢
  go_loop [3, 7] (fun n i => ∃ (k : Nat) (N : Int), k ≤ 4 ∧ i = .int .i64 k ∧ n = .int .i64 N ∧ Hid (N = whN ([a0, a1, a2, a3].take k))) (fun _ i => 4 - (intOf i).toNat)
  case atStart => exact ⟨0, 1, by omega, rfl, rfl, rfl⟩
  case round =>
    obtain ⟨k, N, hk, rfl, rfl, HN⟩ := hrel
    have hk4 : k = 0 ∨ k = 1 ∨ k = 2 ∨ k = 3 ∨ k = 4 := by omega
    clear hk
    rcases hk4 with rfl | rfl | rfl | rfl | rfl
    · have HX : Hid (whN ([a0, a1, a2, a3].take (0 + 1)) = if a0 = -1 then 2 * N else N) := by have := whN_next (l := [a0, a1, a2, a3]) (k := 0) (by simp) (z := a0) rfl; rw [← HN.out] at this; exact this
      have hb := whN_small (l := [a0, a1, a2, a3]) (k := 0) rfl (by omega)
      rw [← HN.out] at hb
      have hN1 : 1 ≤ N := hb.1
      have hN2 : N ≤ 8 := hb.2
      clear hb HN
      by_cases e : a0 = -1
      · have HE : Hid (a0 = -1) := e
        have d : (a0 == (-1 : Int)) = true := by simp [e]
        clear e
        go_wp2
        go_round
        case rel => exact ⟨1, 2 * N, by omega, rfl, by go_num, by show _ = _; rw [HX.out, if_pos HE.out]⟩
        case measure => simp [intOf]
      · have HE : Hid (¬ a0 = -1) := e
        have d : (a0 == (-1 : Int)) = false := by simp [e]
        clear e
        go_wp2
        go_round
        case rel => exact ⟨1, N, by omega, rfl, rfl, by show _ = _; rw [HX.out, if_neg HE.out]⟩
        case measure => simp [intOf]
    · have HX : Hid (whN ([a0, a1, a2, a3].take (1 + 1)) = if a1 = -1 then 2 * N else N) := by have := whN_next (l := [a0, a1, a2, a3]) (k := 1) (by simp) (z := a1) rfl; rw [← HN.out] at this; exact this
      have hb := whN_small (l := [a0, a1, a2, a3]) (k := 1) rfl (by omega)
      rw [← HN.out] at hb
      have hN1 : 1 ≤ N := hb.1
      have hN2 : N ≤ 8 := hb.2
      clear hb HN
      by_cases e : a1 = -1
      · have HE : Hid (a1 = -1) := e
        have d : (a1 == (-1 : Int)) = true := by simp [e]
        clear e
        go_wp2
        go_round
        case rel => exact ⟨2, 2 * N, by omega, rfl, by go_num, by show _ = _; rw [HX.out, if_pos HE.out]⟩
        case measure => simp [intOf]
      · have HE : Hid (¬ a1 = -1) := e
        have d : (a1 == (-1 : Int)) = false := by simp [e]
        clear e
        go_wp2
        go_round
        case rel => exact ⟨2, N, by omega, rfl, rfl, by show _ = _; rw [HX.out, if_neg HE.out]⟩
        case measure => simp [intOf]
    · have HX : Hid (whN ([a0, a1, a2, a3].take (2 + 1)) = if a2 = -1 then 2 * N else N) := by have := whN_next (l := [a0, a1, a2, a3]) (k := 2) (by simp) (z := a2) rfl; rw [← HN.out] at this; exact this
      have hb := whN_small (l := [a0, a1, a2, a3]) (k := 2) rfl (by omega)
      rw [← HN.out] at hb
      have hN1 : 1 ≤ N := hb.1
      have hN2 : N ≤ 8 := hb.2
      clear hb HN
      by_cases e : a2 = -1
      · have HE : Hid (a2 = -1) := e
        have d : (a2 == (-1 : Int)) = true := by simp [e]
        clear e
        go_wp2
        go_round
        case rel => exact ⟨3, 2 * N, by omega, rfl, by go_num, by show _ = _; rw [HX.out, if_pos HE.out]⟩
        case measure => simp [intOf]
      · have HE : Hid (¬ a2 = -1) := e
        have d : (a2 == (-1 : Int)) = false := by simp [e]
        clear e
        go_wp2
        go_round
        case rel => exact ⟨3, N, by omega, rfl, rfl, by show _ = _; rw [HX.out, if_neg HE.out]⟩
        case measure => simp [intOf]
    · have HX : Hid (whN ([a0, a1, a2, a3].take (3 + 1)) = if a3 = -1 then 2 * N else N) := by have := whN_next (l := [a0, a1, a2, a3]) (k := 3) (by simp) (z := a3) rfl; rw [← HN.out] at this; exact this
      have hb := whN_small (l := [a0, a1, a2, a3]) (k := 3) rfl (by omega)
      rw [← HN.out] at hb
      have hN1 : 1 ≤ N := hb.1
      have hN2 : N ≤ 8 := hb.2
      clear hb HN
      by_cases e : a3 = -1
      · have HE : Hid (a3 = -1) := e
        have d : (a3 == (-1 : Int)) = true := by simp [e]
        clear e
        go_wp2
        go_round
        case rel => exact ⟨4, 2 * N, by omega, rfl, by go_num, by show _ = _; rw [HX.out, if_pos HE.out]⟩
        case measure => simp [intOf]
      · have HE : Hid (¬ a3 = -1) := e
        have d : (a3 == (-1 : Int)) = false := by simp [e]
        clear e
        go_wp2
        go_round
        case rel => exact ⟨4, N, by omega, rfl, rfl, by show _ = _; rw [HX.out, if_neg HE.out]⟩
        case measure => simp [intOf]
    · go_wp2
      go_ret
      exact ⟨ret_int HN.out, HB0.out⟩
set_option maxHeartbeats 1000000 in
theorem iWholes_any (x : Value) (l : List Int) (w : World) (hl : l.length ≤ 4611686018427387904) (h : IsI w x l) :
    Calls Try.prog 8 #[x] w fun e w' => e = .returned (.int .i64 (if vok l = true then whN l else 0)) ∧ Below w.heap.size w w' := by
  have H := of_any x l w hl h
  cases hv : vok l with
  | false =>
    rw [hv, vec_no hv] at H
    go_enter Try.func8, Try.ntmps8
    go_wp2_with fail
    refine H.mono ?_
    rintro e w1 ⟨rfl, hb1⟩
    go_wp2
    go_ret
    exact ⟨rfl, hb1.alloc hb1.size _⟩
  | true =>
    rw [hv] at H
    obtain ⟨a0, a1, a2, a3, rfl, _⟩ := vok_four hv
    rw [show vecOf [a0, a1, a2, a3] = vec a0 a1 a2 a3 by simp [vecOf, hv, intAt]] at H
    have M : Hid (∀ W, Calls Try.prog 21 #[vec a0 a1 a2 a3] W fun e w' => e = .returned (.int .i64 (whN [a0, a1, a2, a3])) ∧ Below W.heap.size W w') := fun W => wholes_any a0 a1 a2 a3 W
    go_enter Try.func8, Try.ntmps8
    go_wp2_with fail
    refine H.mono ?_
    rintro e w1 ⟨rfl, hb1⟩
    go_wp2_with fail
    refine (M.out _).mono ?_
    rintro e w2 ⟨rfl, hb2⟩
    have hz := hb1.size
    go_wp2
    go_ret
    exact ⟨rfl, (hb1.alloc hb1.size _).trans (hb2.mono (by simp; omega))⟩
end Go.Proofs.Ytofbholpggkjcab

/- How a list of numbers that came in is read. -/
namespace Go.Proofs.Ytofbholpggkjcab
open Go.ChangeShapes Go.WideShapes Go.ChangeAt Go.RowKit

theorem own : ownKnob Try.prog.godebug = none := by kernel_rfl
theorem laidOut : laidOutB Try.prog = true := by kernel_rfl
theorem cells3 : Try.prog.cellsOf 3 = 1 := by kernel_rfl
theorem add_plain (b off n : Nat) : (⟨b, off, none⟩ : Addr).add n = ⟨b, off + n, none⟩ := by
  unfold Addr.add
  split <;> simp_all
theorem ints_list {w : World} {b off : Nat} : ∀ n, (∀ i, i < n → ∃ z : Int, w.cell? ⟨b, off + i, none⟩ = some (.int .i64 z)) → ∃ l : List Int, l.length = n ∧ ∀ i, i < n → w.cell? ⟨b, off + i, none⟩ = some (.int .i64 (intAt l i))
  | 0, _ => ⟨[], rfl, fun i hi => by omega⟩
  | n + 1, h => by
    obtain ⟨l, hl, hi⟩ := ints_list n (fun i hi => h i (by omega))
    obtain ⟨e, he⟩ := h n (by omega)
    refine ⟨l ++ [e], by simp [hl], fun i hi' => ?_⟩
    by_cases hin : i < n
    · have : intAt (l ++ [e]) i = intAt l i := by unfold intAt; simp [List.getElem?_append_left (by omega : i < l.length)]
      rw [this]; exact hi i hin
    · have : intAt (l ++ [e]) i = e := by unfold intAt; simp [show i = l.length by omega]
      rw [this, show i = n by omega]; exact he
set_option maxRecDepth 100000 in
theorem open_ints' {H : Type} {enc : TypeId × Value → H} {w : World} {b0 : Nat} {spare : Nat → Bool} {held : Bool} {r : Reach} {v : Value} {d : DataW H} {p : List MemPlace}
    (hv : Value.okWide Try.prog w r b0 22 v) (h : DataW.Trod enc Try.prog w 0 spare held 22 v d p) : ∃ l : List Int, IsI w v l := by
  obtain ⟨a0, len, cap, rfl⟩ := okWide_slice Try.underlying22 hv
  obtain ⟨fuel, hf⟩ := h
  rcases DataW.trod_slice Try.underlying22 hf with ⟨hcs, _⟩ | ⟨a, len', cap', elems, rest, n, _, hcs, _, hb, hl, hm, hlen, hel, _, _⟩
  · simp [Value.cells] at hcs
    obtain ⟨rfl, rfl, rfl⟩ := hcs
    exact ⟨[], _, _, rfl, Nat.le_refl _, by unfold maxLen; omega, .inl rfl⟩
  · simp [Value.cells] at hcs
    obtain ⟨rfl, rfl, rfl⟩ := hcs
    by_cases h0 : len = 0
    · subst h0
      exact ⟨[], _, _, rfl, hl, hm, .inl rfl⟩
    · obtain ⟨b, off, spot⟩ := a
      have hs : spot = none := by
        have h1 := hel 0 (by omega)
        rw [cells3, List.getElem?_eq_getElem (by omega)] at h1
        obtain ⟨cs, hc, ht⟩ := Option.bind_eq_some_iff.1 h1
        obtain ⟨t, rfl, _⟩ := DataW.trod_int Try.underlying3 ht
        have c0 := (World.cells?_some hc).2.2 0 (by omega)
        simpa [Addr.add] using World.cell?_spot c0
      subst hs
      have each : ∀ i, i < len → ∃ z : Int, w.cell? ⟨b, off + i, none⟩ = some (.int .i64 z) ∧ b < w.heap.size := by
        intro i hi
        have h1 := hel i hi
        rw [cells3, List.getElem?_eq_getElem (by omega), add_plain] at h1
        obtain ⟨cs, hc, ht⟩ := Option.bind_eq_some_iff.1 h1
        obtain ⟨t, rfl, _, hw⟩ := DataW.trod_int Try.underlying3 ht
        have hblk : b < w.heap.size := World.cells?_block hc (by omega)
        obtain ⟨_, _, hcell⟩ := World.cells?_some hc
        have h2 := hcell 0 (by omega)
        simp only [add_plain] at h2
        exact ⟨t, by simpa using h2, hblk⟩
      obtain ⟨_, _, hblk⟩ := each 0 (by omega)
      obtain ⟨l, rfl, hi⟩ := ints_list (w := w) (b := b) (off := off) len (fun i hi => by
        obtain ⟨e, he, _⟩ := each i hi
        exact ⟨e, he⟩)
      exact ⟨l, _, _, rfl, hl, hm, .inr ⟨b, off, rfl, hblk, hi⟩⟩
end Go.Proofs.Ytofbholpggkjcab

