/- VMeet, VSpec, VBox, VTo, VLow, VNum -/
import Derived.Test.YtofbholpggkjcabExactDecideG01
import Derived.Test.YtofbholpggkjcabExactDecideG00
import Derived.Lib.OthersKept
/- Vectors: the program's meets and refines, the specification's l6meet. -/
namespace Go.Proofs.Ytofbholpggkjcab
open Go.RowKit
/- Two numbers that may be of one run. -/
def mB (a b : Int) : Bool := decide (a = -1) || decide (b = -1) || decide (a = b)
def rB (a b : Int) : Bool := decide (b = -1) || decide (a = b)
def meetB (l r : List Int) : Bool := (List.range 4).all fun j => mB (intAt l j) (intAt r j)
def refB (l r : List Int) : Bool := (List.range 4).all fun j => rB (intAt l j) (intAt r j)
theorem all4_yes {f : Nat → Bool} (h : ∀ j, j < 4 → f j = true) : (List.range 4).all f = true := by
  rw [List.all_eq_true]; intro x hx; exact h x (by simpa using hx)
theorem all4_no {f : Nat → Bool} {j : Nat} (hj : j < 4) (h : f j = false) : (List.range 4).all f = false := by
  rw [List.all_eq_false]; exact ⟨j, by simpa using hj, by simp [h]⟩
theorem ints_alloc (w : World) (a b c d : Int) (t : TypeId) : IntsAt (w.alloc (.cells #[i64 a, i64 b, i64 c, i64 d] t)) w.heap.size 0 [a, b, c, d] := by
  refine ⟨by simp, fun i hi => ?_⟩
  have hi4 : i = 0 ∨ i = 1 ∨ i = 2 ∨ i = 3 := by simp at hi; omega
  have hh : (w.alloc (.cells #[i64 a, i64 b, i64 c, i64 d] t)).heap[w.heap.size]? = some (.cells #[i64 a, i64 b, i64 c, i64 d] t) := by
    show (w.heap.push _)[w.heap.size]? = _
    simp
  rcases hi4 with rfl | rfl | rfl | rfl <;> (unfold World.cell?; simp only [hh]; rfl)

set_option maxHeartbeats 4000000 in
theorem meets_any (a0 a1 a2 a3 b0 b1 b2 b3 : Int) (w : World) :
    Calls Try.prog 29 #[vec a0 a1 a2 a3, vec b0 b1 b2 b3] w fun e w' => e = .returned (.bool (meetB [a0, a1, a2, a3] [b0, b1, b2, b3])) ∧ Below w.heap.size w w' := by
  go_enter Try.func29, Try.ntmps29
  go_wp2
  go_loopw [6] (fun i wr => ∃ k : Nat, k ≤ 4 ∧ i = .int .i64 k ∧ Below w.heap.size w wr ∧ IntsAt wr w.heap.size 0 [a0, a1, a2, a3] ∧ IntsAt wr (w.heap.size + 1) 0 [b0, b1, b2, b3] ∧ ∀ j, j < k → mB (intAt [a0, a1, a2, a3] j) (intAt [b0, b1, b2, b3] j) = true) (fun i _ => 4 - (intOf i).toNat)
  case atStart =>
    have h1 := ints_alloc w a0 a1 a2 a3 37
    have h2 := ints_alloc (w.alloc (cell4 a0 a1 a2 a3)) b0 b1 b2 b3 37
    rw [show (w.alloc (cell4 a0 a1 a2 a3)).heap.size = w.heap.size + 1 by simp] at h2
    refine ⟨0, by omega, rfl, ((Below.refl _ w).alloc (Nat.le_refl _) _).alloc (by simp) _, h1.below ((Below.refl (w.heap.size + 1) _).alloc (by simp) _) (by omega), h2, fun j hj => by omega⟩
  case round =>
    obtain ⟨k, hk, rfl, hB, hI, hJ, hall⟩ := hrel
    have HB : Hid (Below w.heap.size w wr) := hB
    have HI : Hid (IntsAt wr w.heap.size 0 [a0, a1, a2, a3]) := hI
    have HJ : Hid (IntsAt wr (w.heap.size + 1) 0 [b0, b1, b2, b3]) := hJ
    have HA : Hid (∀ j, j < k → mB (intAt [a0, a1, a2, a3] j) (intAt [b0, b1, b2, b3] j) = true) := hall
    clear hB hI hJ hall
    by_cases hlt : k < 4
    · obtain ⟨x, hx⟩ : ∃ x, x = intAt [a0, a1, a2, a3] k := ⟨_, rfl⟩
      obtain ⟨y, hy⟩ : ∃ y, y = intAt [b0, b1, b2, b3] k := ⟨_, rfl⟩
      have fx := Beyond.ints0 HI.out (k := k) hlt hx
      have fy := Beyond.ints0 HJ.out (k := k) hlt hy
      have HX : Hid (x = intAt [a0, a1, a2, a3] k) := hx
      have HY : Hid (y = intAt [b0, b1, b2, b3] k) := hy
      clear hx hy
      have hki : (k : Int) < 4 := by omega
      by_cases e1 : x = -1
      case pos =>
        have d1 : (x != (-1 : Int)) = false := by simp [e1]
        have HF : Hid (mB x y = true) := by show _ = _; simp [mB, *]
        clear e1
        go_wp2_with fail
        refine wp_region_beyond (by kernel_rfl) (by kernel_rfl) ?_
        repeat (go_big_quiet_step (fail))
        refine wpQuiet_nil ?_
        rintro w2 ⟨⟨_, hb2⟩, rfl⟩
        clear fx fy
        go_wp2
        go_roundw
        case rel => exact ⟨k + 1, by omega, by go_num, HB.out.trans (hb2.mono HB.out.size), HI.out.below hb2 HI.out.1, HJ.out.below hb2 HJ.out.1, fun j hj => by
          by_cases e : j < k
          · exact HA.out j e
          · rw [show j = k by omega, ← HX.out, ← HY.out]; exact HF.out⟩
        case measure => simp [intOf]; omega
      have d1 : (x != (-1 : Int)) = true := by simp [e1]
      by_cases e2 : y = -1
      case pos =>
        have d2 : (y != (-1 : Int)) = false := by simp [e2]
        have HF : Hid (mB x y = true) := by show _ = _; simp [mB, *]
        clear e1 e2
        go_wp2_with fail
        refine wp_region_beyond (by kernel_rfl) (by kernel_rfl) ?_
        repeat (go_big_quiet_step (fail))
        refine wpQuiet_nil ?_
        rintro w2 ⟨⟨_, hb2⟩, rfl⟩
        clear fx fy
        go_wp2
        go_roundw
        case rel => exact ⟨k + 1, by omega, by go_num, HB.out.trans (hb2.mono HB.out.size), HI.out.below hb2 HI.out.1, HJ.out.below hb2 HJ.out.1, fun j hj => by
          by_cases e : j < k
          · exact HA.out j e
          · rw [show j = k by omega, ← HX.out, ← HY.out]; exact HF.out⟩
        case measure => simp [intOf]; omega
      have d2 : (y != (-1 : Int)) = true := by simp [e2]
      by_cases e3 : x = y
      case pos =>
        have d3 : (x != y) = false := by simp [e3]
        have HF : Hid (mB x y = true) := by show _ = _; simp [mB, *]
        clear e1 e2 e3
        go_wp2_with fail
        refine wp_region_beyond (by kernel_rfl) (by kernel_rfl) ?_
        repeat (go_big_quiet_step (fail))
        refine wpQuiet_nil ?_
        rintro w2 ⟨⟨_, hb2⟩, rfl⟩
        clear fx fy
        go_wp2
        go_roundw
        case rel => exact ⟨k + 1, by omega, by go_num, HB.out.trans (hb2.mono HB.out.size), HI.out.below hb2 HI.out.1, HJ.out.below hb2 HJ.out.1, fun j hj => by
          by_cases e : j < k
          · exact HA.out j e
          · rw [show j = k by omega, ← HX.out, ← HY.out]; exact HF.out⟩
        case measure => simp [intOf]; omega
      have d3 : (x != y) = true := by simp [e3]
      have HF : Hid (mB x y = false) := by show _ = _; simp [mB, *]
      clear e1 e2 e3
      go_wp2_with fail
      refine wp_region_beyond (by kernel_rfl) (by kernel_rfl) ?_
      repeat (go_big_quiet_step (fail))
      refine wpQuiet_nil ?_
      rintro w2 ⟨⟨_, hb2⟩, rfl⟩
      clear fx fy
      go_wp2
      go_ret
      exact ⟨ret_bool (all4_no hlt (by rw [← HX.out, ← HY.out]; exact HF.out)).symm, HB.out.trans (hb2.mono HB.out.size)⟩
    · go_wp2
      go_ret
      exact ⟨ret_bool (all4_yes (fun j hj => HA.out j (by omega))).symm, HB.out⟩

set_option maxHeartbeats 4000000 in
theorem refines_any (a0 a1 a2 a3 b0 b1 b2 b3 : Int) (w : World) :
    Calls Try.prog 28 #[vec a0 a1 a2 a3, vec b0 b1 b2 b3] w fun e w' => e = .returned (.bool (refB [a0, a1, a2, a3] [b0, b1, b2, b3])) ∧ Below w.heap.size w w' := by
  go_enter Try.func28, Try.ntmps28
  go_wp2
  go_loopw [6] (fun i wr => ∃ k : Nat, k ≤ 4 ∧ i = .int .i64 k ∧ Below w.heap.size w wr ∧ IntsAt wr w.heap.size 0 [a0, a1, a2, a3] ∧ IntsAt wr (w.heap.size + 1) 0 [b0, b1, b2, b3] ∧ ∀ j, j < k → rB (intAt [a0, a1, a2, a3] j) (intAt [b0, b1, b2, b3] j) = true) (fun i _ => 4 - (intOf i).toNat)
  case atStart =>
    have h1 := ints_alloc w a0 a1 a2 a3 37
    have h2 := ints_alloc (w.alloc (cell4 a0 a1 a2 a3)) b0 b1 b2 b3 37
    rw [show (w.alloc (cell4 a0 a1 a2 a3)).heap.size = w.heap.size + 1 by simp] at h2
    refine ⟨0, by omega, rfl, ((Below.refl _ w).alloc (Nat.le_refl _) _).alloc (by simp) _, h1.below ((Below.refl (w.heap.size + 1) _).alloc (by simp) _) (by omega), h2, fun j hj => by omega⟩
  case round =>
    obtain ⟨k, hk, rfl, hB, hI, hJ, hall⟩ := hrel
    have HB : Hid (Below w.heap.size w wr) := hB
    have HI : Hid (IntsAt wr w.heap.size 0 [a0, a1, a2, a3]) := hI
    have HJ : Hid (IntsAt wr (w.heap.size + 1) 0 [b0, b1, b2, b3]) := hJ
    have HA : Hid (∀ j, j < k → rB (intAt [a0, a1, a2, a3] j) (intAt [b0, b1, b2, b3] j) = true) := hall
    clear hB hI hJ hall
    by_cases hlt : k < 4
    · obtain ⟨x, hx⟩ : ∃ x, x = intAt [a0, a1, a2, a3] k := ⟨_, rfl⟩
      obtain ⟨y, hy⟩ : ∃ y, y = intAt [b0, b1, b2, b3] k := ⟨_, rfl⟩
      have fx := Beyond.ints0 HI.out (k := k) hlt hx
      have fy := Beyond.ints0 HJ.out (k := k) hlt hy
      have HX : Hid (x = intAt [a0, a1, a2, a3] k) := hx
      have HY : Hid (y = intAt [b0, b1, b2, b3] k) := hy
      clear hx hy
      have hki : (k : Int) < 4 := by omega
      by_cases e2 : y = -1
      case pos =>
        have d2 : (y != (-1 : Int)) = false := by simp [e2]
        have HF : Hid (rB x y = true) := by show _ = _; simp [rB, *]
        clear e2
        go_wp2_with fail
        refine wp_region_beyond (by kernel_rfl) (by kernel_rfl) ?_
        repeat (go_big_quiet_step (fail))
        refine wpQuiet_nil ?_
        rintro w2 ⟨⟨_, hb2⟩, rfl⟩
        clear fx fy
        go_wp2
        go_roundw
        case rel => exact ⟨k + 1, by omega, by go_num, HB.out.trans (hb2.mono HB.out.size), HI.out.below hb2 HI.out.1, HJ.out.below hb2 HJ.out.1, fun j hj => by
          by_cases e : j < k
          · exact HA.out j e
          · rw [show j = k by omega, ← HX.out, ← HY.out]; exact HF.out⟩
        case measure => simp [intOf]; omega
      have d2 : (y != (-1 : Int)) = true := by simp [e2]
      by_cases e3 : x = y
      case pos =>
        have d3 : (x != y) = false := by simp [e3]
        have HF : Hid (rB x y = true) := by show _ = _; simp [rB, *]
        clear e2 e3
        go_wp2_with fail
        refine wp_region_beyond (by kernel_rfl) (by kernel_rfl) ?_
        repeat (go_big_quiet_step (fail))
        refine wpQuiet_nil ?_
        rintro w2 ⟨⟨_, hb2⟩, rfl⟩
        clear fx fy
        go_wp2
        go_roundw
        case rel => exact ⟨k + 1, by omega, by go_num, HB.out.trans (hb2.mono HB.out.size), HI.out.below hb2 HI.out.1, HJ.out.below hb2 HJ.out.1, fun j hj => by
          by_cases e : j < k
          · exact HA.out j e
          · rw [show j = k by omega, ← HX.out, ← HY.out]; exact HF.out⟩
        case measure => simp [intOf]; omega
      have d3 : (x != y) = true := by simp [e3]
      have HF : Hid (rB x y = false) := by show _ = _; simp [rB, *]
      clear e2 e3
      go_wp2_with fail
      refine wp_region_beyond (by kernel_rfl) (by kernel_rfl) ?_
      repeat (go_big_quiet_step (fail))
      refine wpQuiet_nil ?_
      rintro w2 ⟨⟨_, hb2⟩, rfl⟩
      clear fx fy
      go_wp2
      go_ret
      exact ⟨ret_bool (all4_no hlt (by rw [← HX.out, ← HY.out]; exact HF.out)).symm, HB.out.trans (hb2.mono HB.out.size)⟩
    · go_wp2
      go_ret
      exact ⟨ret_bool (all4_yes (fun j hj => HA.out j (by omega))).symm, HB.out⟩

end Go.Proofs.Ytofbholpggkjcab

/- Vectors: the specification's Meets and Refines. -/
namespace Go.Proofs.Ytofbholpggkjcab
open Go.RowKit
theorem vok_at {l : List Int} (h : vok l = true) (j : Nat) (hj : j < 4) : -1 ≤ intAt l j ∧ intAt l j ≤ 1 := by
  obtain ⟨a, b, c, d, rfl, h0, h1, h2, h3⟩ := vok_four h
  have hj4 : j = 0 ∨ j = 1 ∨ j = 2 ∨ j = 3 := by omega
  rcases hj4 with rfl | rfl | rfl | rfl
  · exact h0
  · exact h1
  · exact h2
  · exact h3
theorem vok_len4 {l : List Int} (h : vok l = true) : l.length = 4 := by
  simp only [vok, Bool.and_eq_true, decide_eq_true_eq] at h; exact h.2
theorem IsI.four {w : World} {x : Value} {l : List Int} (h : IsI w x l) (hl : l.length = 4) : ∃ b off cap, x = .slice (some ⟨b, off, none⟩) 4 cap ∧ IntsAt w b off l := by
  obtain ⟨a, cap, rfl, _, _, h⟩ := h
  obtain ⟨b, off, rfl, h'⟩ := h.resolve_left (by rintro rfl; simp at hl)
  exact ⟨b, off, cap, by rw [hl], h'⟩
end Go.Proofs.Ytofbholpggkjcab

/- Vectors: an array of four numbers in a block of its own. -/
namespace Go.Proofs.Ytofbholpggkjcab
open Go.RowKit
def V4 (w : World) (g : Nat) (a b c d : Int) : Prop := w.heap[g]? = some (cell4 a b c d)
theorem V4.new (w : World) (a b c d : Int) : V4 (w.alloc (cell4 a b c d)) w.heap.size a b c d := by
  show (w.heap.push _)[w.heap.size]? = _
  simp
theorem V4.keep {w w' : World} {B g : Nat} {a b c d : Int} (h : V4 w g a b c d) (hb : Below B w w') (hg : g < B) : V4 w' g a b c d := (hb.block g hg).trans h
theorem V4.lt {w : World} {g : Nat} {a b c d : Int} (h : V4 w g a b c d) : g < w.heap.size := (Array.getElem?_eq_some_iff.1 h).1
theorem V4.alloc {w : World} {g : Nat} {a b c d : Int} (h : V4 w g a b c d) (o : Obj) : V4 (w.alloc o) g a b c d := h.keep ((Below.refl w.heap.size w).alloc (Nat.le_refl _) o) h.lt
theorem V4.cells {w : World} {g : Nat} {a b c d : Int} (h : V4 w g a b c d) :
    w.cell? ⟨g, 0, none⟩ = some (.int .i64 a) ∧ w.cell? ⟨g, 1, none⟩ = some (.int .i64 b) ∧ w.cell? ⟨g, 2, none⟩ = some (.int .i64 c) ∧ w.cell? ⟨g, 3, none⟩ = some (.int .i64 d) ∧ (∀ o, w.frozen? ⟨g, o, none⟩ = false) := by
  have h' : w.heap[g]? = some (.cells #[i64 a, i64 b, i64 c, i64 d] 37) := h
  refine ⟨?_, ?_, ?_, ?_, fun o => ?_⟩
  · unfold World.cell?; simp only [h']; rfl
  · unfold World.cell?; simp only [h']; rfl
  · unfold World.cell?; simp only [h']; rfl
  · unfold World.cell?; simp only [h']; rfl
  · unfold World.frozen?; simp only [h']; simp
theorem V4.ints {w : World} {g : Nat} {a b c d : Int} (h : V4 w g a b c d) : IntsAt w g 0 [a, b, c, d] := by
  obtain ⟨h0, h1, h2, h3, _⟩ := h.cells
  refine ⟨h.lt, fun i hi => ?_⟩
  have hi4 : i = 0 ∨ i = 1 ∨ i = 2 ∨ i = 3 := by simp at hi; omega
  rcases hi4 with rfl | rfl | rfl | rfl
  · exact h0
  · exact h1
  · exact h2
  · exact h3
abbrev put4 (w : World) (g : Nat) (a b c d : Int) : World := (((w.setCell ⟨g, 0, none⟩ (.int .i64 a)).setCell ⟨g, 1, none⟩ (.int .i64 b)).setCell ⟨g, 2, none⟩ (.int .i64 c)).setCell ⟨g, 3, none⟩ (.int .i64 d)
theorem put4_below {B : Nat} {a w : World} (h : Below B a w) {g : Nat} (hg : B ≤ g) (x0 x1 x2 x3 : Int) : Below B a (put4 w g x0 x1 x2 x3) :=
  (((h.setCell (p := ⟨g, 0, none⟩) hg _).setCell (p := ⟨g, 1, none⟩) hg _).setCell (p := ⟨g, 2, none⟩) hg _).setCell (p := ⟨g, 3, none⟩) hg _
theorem put4_size (w : World) (g : Nat) (x0 x1 x2 x3 : Int) : (put4 w g x0 x1 x2 x3).heap.size = w.heap.size := by simp
theorem V4.put {w : World} {g : Nat} {a b c d : Int} (h : V4 w g a b c d) (x0 x1 x2 x3 : Int) : V4 (put4 w g x0 x1 x2 x3) g x0 x1 x2 x3 := by
  have h' : w.heap[g]? = some (.cells #[i64 a, i64 b, i64 c, i64 d] 37) := h
  obtain ⟨hl, hv⟩ := Array.getElem?_eq_some_iff.1 h'
  unfold V4 put4
  simp [World.setCell, hl, Array.getElem_modify, hv]
theorem V4.other {w : World} {g k : Nat} {a b c d : Int} (h : V4 w g a b c d) (hk : g ≠ k) (x0 x1 x2 x3 : Int) : V4 (put4 w k x0 x1 x2 x3) g a b c d := by
  have e : (put4 w k x0 x1 x2 x3).heap[g]? = w.heap[g]? := by
    unfold put4
    rw [Below.heap_setCell _ _ _ _ hk, Below.heap_setCell _ _ _ _ hk, Below.heap_setCell _ _ _ _ hk, Below.heap_setCell _ _ _ _ hk]
  exact e.trans h
end Go.Proofs.Ytofbholpggkjcab

/- toIntS: a row of one's own. -/
namespace Go.Proofs.Ytofbholpggkjcab
open Go.RowKit
/- The block g holds the numbers of l, from its first cell on, and they may be written. -/
def RowI (w : World) (g : Nat) (l : List Int) : Prop := g < w.heap.size ∧ ∀ j, j < l.length → w.cell? ⟨g, j, none⟩ = some (.int .i64 (intAt l j)) ∧ w.frozen? ⟨g, j, none⟩ = false
theorem RowI.below {w w' : World} {B g : Nat} {l : List Int} (h : RowI w g l) (hb : Below B w w') (hB : g < B) : RowI w' g l :=
  ⟨Nat.lt_of_lt_of_le h.1 hb.size, fun j hj => by rw [hb.cell (p := ⟨g, j, none⟩) hB, hb.frozen (p := ⟨g, j, none⟩) hB]; exact h.2 j hj⟩
abbrev sl (g n : Nat) : Value := .slice (some ⟨g, 0, none⟩) n n
theorem RowI.own {w : World} {g : Nat} {l : List Int} (h : RowI w g l) (hl : l.length ≤ maxLen) {B : Nat} (hB : B ≤ g) : OwnI B w (sl g l.length) l :=
  ⟨_, _, rfl, Nat.le_refl _, hl, .inr ⟨g, rfl, hB, fun j hj => (h.2 j hj).2, h.1, fun i hi => by rw [Nat.zero_add]; exact (h.2 i hi).1⟩⟩
theorem RowI.isI {w : World} {g : Nat} {l : List Int} (h : RowI w g l) (hl : l.length ≤ maxLen) : IsI w (sl g l.length) l := (h.own hl (Nat.zero_le _)).isI
theorem RowI.mark {w : World} {g : Nat} {l : List Int} (h : RowI w g l) : MarkTo w g l.length 0 :=
  ⟨h.1, fun j hj => by rw [(h.2 j hj).1]; exact ⟨rfl, (h.2 j hj).2⟩, fun i hi => by omega⟩
/- As far as k it holds them; all n cells may be written. -/
def FillI (w : World) (g n : Nat) (l : List Int) (k : Nat) : Prop := g < w.heap.size ∧ (∀ j, j < n → (w.cell? ⟨g, j, none⟩).isSome = true ∧ w.frozen? ⟨g, j, none⟩ = false) ∧ ∀ i, i < k → w.cell? ⟨g, i, none⟩ = some (.int .i64 (intAt l i))
theorem FillI.row {w : World} {g : Nat} {l : List Int} (h : FillI w g l.length l l.length) : RowI w g l := ⟨h.1, fun j hj => ⟨h.2.2 j hj, (h.2.1 j hj).2⟩⟩
theorem FillI.put {w : World} {g n k : Nat} {l : List Int} (h : FillI w g n l k) (hk : k < n) : FillI (w.setCell ⟨g, k, none⟩ (.int .i64 (intAt l k))) g n l (k + 1) := by
  have e1 : w.setCell ⟨g, k, none⟩ (.int .i64 (intAt l k)) = w.setCells g k [.int .i64 (intAt l k)] := rfl
  have hsame : ∀ j, j ≠ k → (w.setCell ⟨g, k, none⟩ (.int .i64 (intAt l k))).cell? ⟨g, j, none⟩ = w.cell? ⟨g, j, none⟩ := fun j hj => by
    rw [e1]
    exact World.cell?_setCells_out g _ k w ⟨g, j, none⟩ (fun _ _ => by simp; omega)
  have hat : (w.setCell ⟨g, k, none⟩ (.int .i64 (intAt l k))).cell? ⟨g, k, none⟩ = some (.int .i64 (intAt l k)) := by
    rw [e1]
    have h0 := World.cell?_setCells_in g [.int .i64 (intAt l k)] k w (fun j hj => by
      obtain rfl : j = 0 := by simpa using hj
      exact (h.2.1 k hk).1) 0 (by simp)
    simpa using h0
  refine ⟨by simpa using h.1, fun j hj => ?_, fun i hi => ?_⟩
  · refine ⟨?_, ?_⟩
    · by_cases e : j = k
      · subst e; rw [hat]; rfl
      · rw [hsame j e]; exact (h.2.1 j hj).1
    · rw [e1, World.frozen?_setCells]; exact (h.2.1 j hj).2
  · by_cases e : i = k
    · subst e; exact hat
    · rw [hsame i e]; exact h.2.2 i (by omega)
theorem FillI.made {w1 : World} {B : Nat} {z : List Value} {n : Nat} {l : List Int} (h : w1.ownsRow B 3 1 (.slice (some ⟨B, 0, none⟩) n n) n z) : FillI w1 B n l 0 := by
  obtain ⟨hl, h | ⟨g, cap, cur, e, hg, hc, h1, h2, h3, h4⟩⟩ := h
  · simp at h
  · simp at e
    obtain ⟨rfl, rfl⟩ := e
    have hlt : B < w1.heap.size := (Array.getElem?_eq_some_iff.1 hc).1
    refine ⟨hlt, fun j hj => ?_, fun i hi => by omega⟩
    have hj2 : j < cur.size := by omega
    simp [World.cell?, World.frozen?, hc, hj2]
theorem info3 : (Try.prog.info? 3).map (fun i => (i.zero, i.size, i.bytes)) = some (some (.int .i64 0), 1, 8) := by kernel_rfl
theorem info_parts {i : TypeId} {z : Option Value} {s b : Nat} (h : (Try.prog.info? i).map (fun i => (i.zero, i.size, i.bytes)) = some (z, s, b)) : ∃ i0, Try.prog.info? i = some i0 ∧ i0.zero = z ∧ i0.size = s ∧ i0.bytes = b := by
  obtain ⟨i0, h1, h2⟩ := Option.map_eq_some_iff.1 h
  simp only [Prod.mk.injEq] at h2
  exact ⟨i0, h1, h2.1, h2.2.1, h2.2.2⟩
set_option maxHeartbeats 1000000 in
theorem toI_any (x : Value) (l : List Int) (w : World) (hl : l.length ≤ 1048576) (h : IsI w x l) :
    Calls Try.prog 7 #[x] w fun e w' => e = .returned (sl w.heap.size l.length) ∧ Below w.heap.size w w' ∧ RowI w' w.heap.size l := by
  obtain ⟨a, cap, rfl, h1, h2, h⟩ := h
  rcases h with rfl | ⟨b, off, rfl, hb, h⟩
  · obtain ⟨i0, hi, hz0, hz1, hz2⟩ := info_parts info3
    go_enter Try.func7, Try.ntmps7
    go_wp2_with (at_make; refine wpList_make_full _ rfl _ _ 22 rfl w.heap.size 3 i0 _ 1 Try.underlying22 hi hz0 hz1 .i64 .i64 0 0 0 rfl rfl rfl rfl (by rw [hz2]; omega) (by unfold maxLen; omega) (Nat.le_refl _) ?_; intro w1 hown hgrow)
    have hB1 : Below w.heap.size w w1 := (Below.refl _ _).grown hgrow (Nat.le_refl _) (fun k e => by cases e)
    have hR1 : RowI w1 w.heap.size [] := (FillI.made (n := 0) (l := []) hown).row
    clear hown hgrow hi hz0 hz1 hz2
    go_loop [4] (fun i => i = .int .i64 0) (fun _ => 0)
    case atStart => rfl
    case round =>
      subst hrel
      go_wp2
      go_ret
      exact ⟨rfl, hB1, hR1⟩
  · have hp : (0 : Int) ≤ (l.length : Int) := by omega
    obtain ⟨i0, hi, hz0, hz1, hz2⟩ := info_parts info3
    go_enter Try.func7, Try.ntmps7
    go_wp2_with (at_make; refine wpList_make_full _ rfl _ _ 22 rfl w.heap.size 3 i0 _ 1 Try.underlying22 hi hz0 hz1 .i64 .i64 l.length l.length l.length rfl rfl rfl rfl (by rw [hz2]; omega) (by unfold maxLen; omega) (Nat.le_refl _) ?_; intro w1 hown hgrow)
    have hB1 : Below w.heap.size w w1 := (Below.refl _ _).grown hgrow (Nat.le_refl _) (fun k e => by cases e)
    have hR1 : FillI w1 w.heap.size l.length l 0 := FillI.made hown
    clear hown hgrow hi hz0 hz1 hz2
    go_loopw [4] (fun i wr => ∃ k : Nat, k ≤ l.length ∧ i = .int .i64 k ∧ Below w.heap.size w wr ∧ FillI wr w.heap.size l.length l k) (fun i _ => l.length - (intOf i).toNat)
    case atStart => exact ⟨0, Nat.zero_le _, rfl, hB1, hR1⟩
    case round =>
      obtain ⟨k, hk, rfl, hB, hR⟩ := hrel
      have HB : Hid (Below w.heap.size w wr) := hB
      have HR : Hid (FillI wr w.heap.size l.length l k) := hR
      by_cases hlt : k < l.length
      · have f0 := (hB.cell (p := ⟨b, off + k, none⟩) hb).trans (h k hlt)
        obtain ⟨v, hv⟩ := Option.isSome_iff_exists.1 (hR.2.1 k hlt).1
        have hf := (hR.2.1 k hlt).2
        clear hB hR hB1 hR1 h
        go_wp2
        go_roundw
        case rel => exact ⟨k + 1, by omega, by go_num, HB.out.setCell (Nat.le_refl _) _, HR.out.put hlt⟩
        case measure => simp [intOf]; omega
      · clear hB hR hB1 hR1 h
        go_wp2
        go_ret
        obtain rfl : k = l.length := by omega
        exact ⟨rfl, HB.out, HR.out.row⟩
end Go.Proofs.Ytofbholpggkjcab

/- Rows of numbers: what stays where another row turns. -/
namespace Go.Proofs.Ytofbholpggkjcab
open Go.RowKit
/- As IsI, in a block below B. -/
def LowI (B : Nat) (w : World) (x : Value) (l : List Int) : Prop := ∃ a cap, x = .slice a l.length cap ∧ l.length ≤ cap ∧ cap ≤ maxLen ∧ (l = [] ∨ ∃ b off, a = some ⟨b, off, none⟩ ∧ b < B ∧ IntsAt w b off l)
theorem LowI.isI {B : Nat} {w : World} {x : Value} {l : List Int} (h : LowI B w x l) : IsI w x l := by
  obtain ⟨a, cap, rfl, h1, h2, h⟩ := h
  exact ⟨a, cap, rfl, h1, h2, h.imp id (fun ⟨b, off, e, _, h⟩ => ⟨b, off, e, h⟩)⟩
theorem IsI.low {w : World} {x : Value} {l : List Int} (h : IsI w x l) : LowI w.heap.size w x l := by
  obtain ⟨a, cap, rfl, h1, h2, h⟩ := h
  exact ⟨a, cap, rfl, h1, h2, h.imp id (fun ⟨b, off, e, h⟩ => ⟨b, off, e, h.1, h⟩)⟩
theorem LowI.below {B : Nat} {w w' : World} {x : Value} {l : List Int} (h : LowI B w x l) (hb : Below B w w') : LowI B w' x l := by
  obtain ⟨a, cap, rfl, h1, h2, h⟩ := h
  exact ⟨a, cap, rfl, h1, h2, h.imp id (fun ⟨b, off, e, hB, h⟩ => ⟨b, off, e, hB, h.below hb hB⟩)⟩
theorem OwnI.other {B g : Nat} {w w' : World} {x : Value} {l : List Int} (h : OwnI B w x l) (hg : g < B) (hgr : w.grownBy w' (some g)) : OwnI B w' x l := by
  obtain ⟨a, cap, rfl, h1, h2, h⟩ := h
  refine ⟨a, cap, rfl, h1, h2, h.imp id ?_⟩
  rintro ⟨b, rfl, hB, hf, hr⟩
  have hk : w'.heap[b]? = w.heap[b]? := hgr.block b hr.1 (by intro e; have := Option.some.inj e; omega)
  have hc : ∀ o, w'.cell? ⟨b, o, none⟩ = w.cell? ⟨b, o, none⟩ := fun o => World.cell?_of_block (w := w) hk
  have hz : ∀ o, w'.frozen? ⟨b, o, none⟩ = w.frozen? ⟨b, o, none⟩ := fun o => World.frozen?_of_block (w := w) hk
  exact ⟨b, rfl, hB, fun j hj => (hz j).trans (hf j hj), Nat.lt_of_lt_of_le hr.1 hgr.size, fun i hi => (hc _).trans (hr.2 i hi)⟩
/- An answer: a list of one's own and a flag. -/
def AnsI (B : Nat) (r : List Int) (b : Bool) (e : Ending) (w' : World) : Prop := ∃ v, e = .returned (.tuple #[v, .bool b]) ∧ OwnI B w' v r
end Go.Proofs.Ytofbholpggkjcab

/- Vectors: the program's copyOf and numbers, and numberOf. -/
namespace Go.Proofs.Ytofbholpggkjcab
open Go.RowKit
theorem intCells_length (l : List Int) : (intCells l).length = l.length := by simp [intCells]
theorem intCells_one (l : List Int) : ∀ u ∈ intCells l, u.oneCell' = true := by
  intro u hu
  simp only [intCells, List.mem_map] at hu
  obtain ⟨z, _, rfl⟩ := hu
  rfl
theorem add_none (b off n : Nat) : (⟨b, off, none⟩ : Addr).add n = ⟨b, off + n, none⟩ := by
  unfold Addr.add
  split <;> simp_all
theorem IntsAt.cells {w : World} {b off : Nat} {l : List Int} (h : IntsAt w b off l) : ∀ (j : Nat) (u : Value), (intCells l)[j]? = some u → w.cell? ((⟨b, off, none⟩ : Addr).add j) = some u := by
  intro j u hu
  obtain ⟨hj, rfl⟩ := List.getElem?_eq_some_iff.1 hu
  rw [intCells_length] at hj
  rw [add_none, h.2 j hj]
  simp [intCells, intAt, hj]
set_option maxHeartbeats 1000000 in
theorem copyI_any (b off cap : Nat) (l : List Int) (w : World) (hl : l.length ≤ 1048576) (hI : IntsAt w b off l) :
    Calls Try.prog 30 #[.slice (some ⟨b, off, none⟩) l.length cap] w fun e w' => ∃ x, e = .returned x ∧ OwnI w.heap.size w' x l ∧ Below w.heap.size w w' := by
  obtain ⟨i0, hi, hz0, hz1, hz2⟩ := info_parts info3
  have HI : Hid (IntsAt w b off l) := hI
  clear hI
  go_enter Try.func30, Try.ntmps30
  go_wp2_with (at_builtin; refine wpList_append_own _ rfl _ _ 22 rfl w.heap.size 3 i0 _ 1 8 Try.underlying22 hi hz0 hz1 hz2 rfl (by decide) (.slice none 0 0) 0 [] rfl (World.ownsRow_nil w _ 3 1) ⟨b, off, none⟩ l.length cap (intCells l) rfl (by rw [intCells_length]; omega) HI.out.cells (intCells_one l) (by unfold maxLen; omega) (by omega) (Nat.le_refl _) ?_; intro v' w1 hown hgrow hnil)
  go_ret
  refine ⟨_, rfl, OwnI.of_row (by simpa using hown), (Below.refl _ w).grown hgrow (Nat.le_refl _) (fun k e => by cases e)⟩
set_option maxHeartbeats 1000000 in
theorem numbers_any (a b c d : Int) (w : World) :
    Calls Try.prog 25 #[vec a b c d] w fun e w' => ∃ x, e = .returned x ∧ OwnI w.heap.size w' x [a, b, c, d] ∧ Below w.heap.size w w' := by
  have hI : IntsAt (w.alloc (cell4 a b c d)) w.heap.size 0 [a, b, c, d] := (V4.new w a b c d).ints
  have H : Hid (Calls Try.prog 30 #[.slice (some ⟨w.heap.size, 0, none⟩) 4 4] (w.alloc (cell4 a b c d)) fun e w' => ∃ x, e = .returned x ∧ OwnI (w.alloc (cell4 a b c d)).heap.size w' x [a, b, c, d] ∧ Below (w.alloc (cell4 a b c d)).heap.size (w.alloc (cell4 a b c d)) w') := copyI_any _ 0 4 [a, b, c, d] _ (by simp) hI
  clear hI
  go_enter Try.func25, Try.ntmps25
  go_wp2_with fail
  refine H.out.mono ?_
  rintro e w1 ⟨x, rfl, ho, hb⟩
  have hB : Below w.heap.size w w1 := ((Below.refl _ w).alloc (Nat.le_refl _) _).trans (hb.mono (by simp))
  have hO : OwnI w.heap.size w1 x [a, b, c, d] := ho.mono (by simp)
  clear ho hb
  go_wp2
  go_ret
  exact ⟨_, rfl, hO, hB⟩
abbrev abc : ByteArray := ⟨#[63, 110, 121]⟩
/- What numberOf tells of a letter. -/
def numOfR (z : Int) : Value := if z = 63 then .tuple #[.int .i64 (-1), .bool true] else if z = 110 then .tuple #[.int .i64 0, .bool true] else if z = 121 then .tuple #[.int .i64 1, .bool true] else .tuple #[.int .i64 0, .bool false]
end Go.Proofs.Ytofbholpggkjcab

