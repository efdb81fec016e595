/- VMeet, VSpec -/
import Derived.Test.YtofbholpggkjcaaExactVectorReadG01
/- Vectors: the program's meets and refines, the specification's l6meet. -/
namespace Go.Proofs.Ytofbholpggkjcaa
open Go.RowKit
/- Two numbers that may be of one run. -/
def mB (a b : Int) : Bool := decide (a = -1) || decide (b = -1) || decide (a = b)
def rB (a b : Int) : Bool := decide (b = -1) || decide (a = b)
def meetB (l r : List Int) : Bool := (List.range 4).all fun j => mB (intAt l j) (intAt r j)
def refB (l r : List Int) : Bool := (List.range 4).all fun j => rB (intAt l j) (intAt r j)
theorem all4_yes {f : Nat → Bool} (h : ∀ j, j < 4 → f j = true) : (List.range 4).all f = true := by
  rw [List.all_eq_true]; intro x hx; exact h x (by simpa using hx)
theorem all4_no {f : Nat → Bool} {j : Nat} (hj : j < 4) (h : f j = false) : (List.range 4).all f = false := by
  rw [List.all_eq_false]; exact ⟨j, by simpa using hj, by simp [h]⟩
theorem ints_alloc (w : World) (a b c d : Int) (t : TypeId) : IntsAt (w.alloc (.cells #[i64 a, i64 b, i64 c, i64 d] t)) w.heap.size 0 [a, b, c, d] := by
  refine ⟨by simp, fun i hi => ?_⟩
  have hi4 : i = 0 ∨ i = 1 ∨ i = 2 ∨ i = 3 := by simp at hi; omega
  have hh : (w.alloc (.cells #[i64 a, i64 b, i64 c, i64 d] t)).heap[w.heap.size]? = some (.cells #[i64 a, i64 b, i64 c, i64 d] t) := by
    show (w.heap.push _)[w.heap.size]? = _
    simp
  rcases hi4 with rfl | rfl | rfl | rfl <;> (unfold World.cell?; simp only [hh]; rfl)

set_option maxHeartbeats 4000000 in
theorem meets_any (a0 a1 a2 a3 b0 b1 b2 b3 : Int) (w : World) :
    Calls Try.prog 38 #[vec a0 a1 a2 a3, vec b0 b1 b2 b3] w fun e w' => e = .returned (.bool (meetB [a0, a1, a2, a3] [b0, b1, b2, b3])) ∧ Below w.heap.size w w' := by
  go_enter Try.func38, Try.ntmps38
  go_wp2
  go_loopw [6] (fun i wr => ∃ k : Nat, k ≤ 4 ∧ i = .int .i64 k ∧ Below w.heap.size w wr ∧ IntsAt wr w.heap.size 0 [a0, a1, a2, a3] ∧ IntsAt wr (w.heap.size + 1) 0 [b0, b1, b2, b3] ∧ ∀ j, j < k → mB (intAt [a0, a1, a2, a3] j) (intAt [b0, b1, b2, b3] j) = true) (fun i _ => 4 - (intOf i).toNat)
  case atStart =>
    have h1 := ints_alloc w a0 a1 a2 a3 37
    have h2 := ints_alloc (w.alloc (cell4 a0 a1 a2 a3)) b0 b1 b2 b3 37
    rw [show (w.alloc (cell4 a0 a1 a2 a3)).heap.size = w.heap.size + 1 by simp] at h2
    refine ⟨0, by omega, rfl, ((Below.refl _ w).alloc (Nat.le_refl _) _).alloc (by simp) _, h1.below ((Below.refl (w.heap.size + 1) _).alloc (by simp) _) (by omega), h2, fun j hj => by omega⟩
  case round =>
    obtain ⟨k, hk, rfl, hB, hI, hJ, hall⟩ := hrel
    have HB : Hid (Below w.heap.size w wr) := hB
    have HI : Hid (IntsAt wr w.heap.size 0 [a0, a1, a2, a3]) := hI
    have HJ : Hid (IntsAt wr (w.heap.size + 1) 0 [b0, b1, b2, b3]) := hJ
    have HA : Hid (∀ j, j < k → mB (intAt [a0, a1, a2, a3] j) (intAt [b0, b1, b2, b3] j) = true) := hall
    clear hB hI hJ hall
    by_cases hlt : k < 4
    · obtain ⟨x, hx⟩ : ∃ x, x = intAt [a0, a1, a2, a3] k := ⟨_, rfl⟩
      obtain ⟨y, hy⟩ : ∃ y, y = intAt [b0, b1, b2, b3] k := ⟨_, rfl⟩
      have fx := Beyond.ints0 HI.out (k := k) hlt hx
      have fy := Beyond.ints0 HJ.out (k := k) hlt hy
      have HX : Hid (x = intAt [a0, a1, a2, a3] k) := hx
      have HY : Hid (y = intAt [b0, b1, b2, b3] k) := hy
      clear hx hy
      have hki : (k : Int) < 4 := by omega
      by_cases e1 : x = -1
      case pos =>
        have d1 : (x != (-1 : Int)) = false := by simp [e1]
        have HF : Hid (mB x y = true) := by show _ = _; simp [mB, *]
        clear e1
        go_wp2_with fail
        refine wp_region_beyond (by kernel_rfl) (by kernel_rfl) ?_
        repeat (go_big_quiet_step (fail))
        refine wpQuiet_nil ?_
        rintro w2 ⟨⟨_, hb2⟩, rfl⟩
        clear fx fy
        go_wp2
        go_roundw
        case rel => exact ⟨k + 1, by omega, by go_num, HB.out.trans (hb2.mono HB.out.size), HI.out.below hb2 HI.out.1, HJ.out.below hb2 HJ.out.1, fun j hj => by
          by_cases e : j < k
          · exact HA.out j e
          · rw [show j = k by omega, ← HX.out, ← HY.out]; exact HF.out⟩
        case measure => simp [intOf]; omega
      have d1 : (x != (-1 : Int)) = true := by simp [e1]
      by_cases e2 : y = -1
      case pos =>
        have d2 : (y != (-1 : Int)) = false := by simp [e2]
        have HF : Hid (mB x y = true) := by show _ = _; simp [mB, *]
        clear e1 e2
        go_wp2_with fail
        refine wp_region_beyond (by kernel_rfl) (by kernel_rfl) ?_
        repeat (go_big_quiet_step (fail))
        refine wpQuiet_nil ?_
        rintro w2 ⟨⟨_, hb2⟩, rfl⟩
        clear fx fy
        go_wp2
        go_roundw
        case rel => exact ⟨k + 1, by omega, by go_num, HB.out.trans (hb2.mono HB.out.size), HI.out.below hb2 HI.out.1, HJ.out.below hb2 HJ.out.1, fun j hj => by
          by_cases e : j < k
          · exact HA.out j e
          · rw [show j = k by omega, ← HX.out, ← HY.out]; exact HF.out⟩
        case measure => simp [intOf]; omega
      have d2 : (y != (-1 : Int)) = true := by simp [e2]
      by_cases e3 : x = y
      case pos =>
        have d3 : (x != y) = false := by simp [e3]
        have HF : Hid (mB x y = true) := by show _ = _; simp [mB, *]
        clear e1 e2 e3
        go_wp2_with fail
        refine wp_region_beyond (by kernel_rfl) (by kernel_rfl) ?_
        repeat (go_big_quiet_step (fail))
        refine wpQuiet_nil ?_
        rintro w2 ⟨⟨_, hb2⟩, rfl⟩
        clear fx fy
        go_wp2
        go_roundw
        case rel => exact ⟨k + 1, by omega, by go_num, HB.out.trans (hb2.mono HB.out.size), HI.out.below hb2 HI.out.1, HJ.out.below hb2 HJ.out.1, fun j hj => by
          by_cases e : j < k
          · exact HA.out j e
          · rw [show j = k by omega, ← HX.out, ← HY.out]; exact HF.out⟩
        case measure => simp [intOf]; omega
      have d3 : (x != y) = true := by simp [e3]
      have HF : Hid (mB x y = false) := by show _ = _; simp [mB, *]
      clear e1 e2 e3
      go_wp2_with fail
      refine wp_region_beyond (by kernel_rfl) (by kernel_rfl) ?_
      repeat (go_big_quiet_step (fail))
      refine wpQuiet_nil ?_
      rintro w2 ⟨⟨_, hb2⟩, rfl⟩
      clear fx fy
      go_wp2
      go_ret
      exact ⟨ret_bool (all4_no hlt (by rw [← HX.out, ← HY.out]; exact HF.out)).symm, HB.out.trans (hb2.mono HB.out.size)⟩
    · go_wp2
      go_ret
      exact ⟨ret_bool (all4_yes (fun j hj => HA.out j (by omega))).symm, HB.out⟩

set_option maxHeartbeats 4000000 in
theorem refines_any (a0 a1 a2 a3 b0 b1 b2 b3 : Int) (w : World) :
    Calls Try.prog 39 #[vec a0 a1 a2 a3, vec b0 b1 b2 b3] w fun e w' => e = .returned (.bool (refB [a0, a1, a2, a3] [b0, b1, b2, b3])) ∧ Below w.heap.size w w' := by
  go_enter Try.func39, Try.ntmps39
  go_wp2
  go_loopw [6] (fun i wr => ∃ k : Nat, k ≤ 4 ∧ i = .int .i64 k ∧ Below w.heap.size w wr ∧ IntsAt wr w.heap.size 0 [a0, a1, a2, a3] ∧ IntsAt wr (w.heap.size + 1) 0 [b0, b1, b2, b3] ∧ ∀ j, j < k → rB (intAt [a0, a1, a2, a3] j) (intAt [b0, b1, b2, b3] j) = true) (fun i _ => 4 - (intOf i).toNat)
  case atStart =>
    have h1 := ints_alloc w a0 a1 a2 a3 37
    have h2 := ints_alloc (w.alloc (cell4 a0 a1 a2 a3)) b0 b1 b2 b3 37
    rw [show (w.alloc (cell4 a0 a1 a2 a3)).heap.size = w.heap.size + 1 by simp] at h2
    refine ⟨0, by omega, rfl, ((Below.refl _ w).alloc (Nat.le_refl _) _).alloc (by simp) _, h1.below ((Below.refl (w.heap.size + 1) _).alloc (by simp) _) (by omega), h2, fun j hj => by omega⟩
  case round =>
    obtain ⟨k, hk, rfl, hB, hI, hJ, hall⟩ := hrel
    have HB : Hid (Below w.heap.size w wr) := hB
    have HI : Hid (IntsAt wr w.heap.size 0 [a0, a1, a2, a3]) := hI
    have HJ : Hid (IntsAt wr (w.heap.size + 1) 0 [b0, b1, b2, b3]) := hJ
    have HA : Hid (∀ j, j < k → rB (intAt [a0, a1, a2, a3] j) (intAt [b0, b1, b2, b3] j) = true) := hall
    clear hB hI hJ hall
    by_cases hlt : k < 4
    · obtain ⟨x, hx⟩ : ∃ x, x = intAt [a0, a1, a2, a3] k := ⟨_, rfl⟩
      obtain ⟨y, hy⟩ : ∃ y, y = intAt [b0, b1, b2, b3] k := ⟨_, rfl⟩
      have fx := Beyond.ints0 HI.out (k := k) hlt hx
      have fy := Beyond.ints0 HJ.out (k := k) hlt hy
      have HX : Hid (x = intAt [a0, a1, a2, a3] k) := hx
      have HY : Hid (y = intAt [b0, b1, b2, b3] k) := hy
      clear hx hy
      have hki : (k : Int) < 4 := by omega
      by_cases e2 : y = -1
      case pos =>
        have d2 : (y != (-1 : Int)) = false := by simp [e2]
        have HF : Hid (rB x y = true) := by show _ = _; simp [rB, *]
        clear e2
        go_wp2_with fail
        refine wp_region_beyond (by kernel_rfl) (by kernel_rfl) ?_
        repeat (go_big_quiet_step (fail))
        refine wpQuiet_nil ?_
        rintro w2 ⟨⟨_, hb2⟩, rfl⟩
        clear fx fy
        go_wp2
        go_roundw
        case rel => exact ⟨k + 1, by omega, by go_num, HB.out.trans (hb2.mono HB.out.size), HI.out.below hb2 HI.out.1, HJ.out.below hb2 HJ.out.1, fun j hj => by
          by_cases e : j < k
          · exact HA.out j e
          · rw [show j = k by omega, ← HX.out, ← HY.out]; exact HF.out⟩
        case measure => simp [intOf]; omega
      have d2 : (y != (-1 : Int)) = true := by simp [e2]
      by_cases e3 : x = y
      case pos =>
        have d3 : (x != y) = false := by simp [e3]
        have HF : Hid (rB x y = true) := by show _ = _; simp [rB, *]
        clear e2 e3
        go_wp2_with fail
        refine wp_region_beyond (by kernel_rfl) (by kernel_rfl) ?_
        repeat (go_big_quiet_step (fail))
        refine wpQuiet_nil ?_
        rintro w2 ⟨⟨_, hb2⟩, rfl⟩
        clear fx fy
        go_wp2
        go_roundw
        case rel => exact ⟨k + 1, by omega, by go_num, HB.out.trans (hb2.mono HB.out.size), HI.out.below hb2 HI.out.1, HJ.out.below hb2 HJ.out.1, fun j hj => by
          by_cases e : j < k
          · exact HA.out j e
          · rw [show j = k by omega, ← HX.out, ← HY.out]; exact HF.out⟩
        case measure => simp [intOf]; omega
      have d3 : (x != y) = true := by simp [e3]
      have HF : Hid (rB x y = false) := by show _ = _; simp [rB, *]
      clear e2 e3
      go_wp2_with fail
      refine wp_region_beyond (by kernel_rfl) (by kernel_rfl) ?_
      repeat (go_big_quiet_step (fail))
      refine wpQuiet_nil ?_
      rintro w2 ⟨⟨_, hb2⟩, rfl⟩
      clear fx fy
      go_wp2
      go_ret
      exact ⟨ret_bool (all4_no hlt (by rw [← HX.out, ← HY.out]; exact HF.out)).symm, HB.out.trans (hb2.mono HB.out.size)⟩
    · go_wp2
      go_ret
      exact ⟨ret_bool (all4_yes (fun j hj => HA.out j (by omega))).symm, HB.out⟩

set_option maxHeartbeats 4000000 in
theorem l6meet_any (b off cap b' off' cap' : Nat) (l r : List Int) (w : World) (hl : l.length = 4) (hr : r.length = 4) (hl1 : ∀ j, j < 4 → -1 ≤ intAt l j) (hr1 : ∀ j, j < 4 → -1 ≤ intAt r j) (hI : IntsAt w b off l) (hJ : IntsAt w b' off' r) :
    Calls Try.prog 37 #[.slice (some ⟨b, off, none⟩) 4 cap, .slice (some ⟨b', off', none⟩) 4 cap'] w fun e w' => e = .returned (.bool (meetB l r)) ∧ Below w.heap.size w w' := by
  have HL : Hid (l.length = 4) := hl
  have HR : Hid (r.length = 4) := hr
  have HL1 : Hid (∀ j, j < 4 → -1 ≤ intAt l j) := hl1
  have HR1 : Hid (∀ j, j < 4 → -1 ≤ intAt r j) := hr1
  have HI0 : Hid (IntsAt w b off l) := hI
  have HJ0 : Hid (IntsAt w b' off' r) := hJ
  clear hl hr hl1 hr1 hI hJ
  go_enter Try.func37, Try.ntmps37
  go_wp2
  go_loopw [5] (fun i wr => ∃ k : Nat, k ≤ 4 ∧ i = .int .i64 k ∧ Below w.heap.size w wr ∧ IntsAt wr b off l ∧ IntsAt wr b' off' r ∧ ∀ j, j < k → mB (intAt l j) (intAt r j) = true) (fun i _ => 4 - (intOf i).toNat)
  case atStart => exact ⟨0, by omega, rfl, Below.refl _ _, HI0.out, HJ0.out, fun j hj => by omega⟩
  case round =>
    obtain ⟨k, hk, rfl, hB, hI, hJ, hall⟩ := hrel
    have HB : Hid (Below w.heap.size w wr) := hB
    have HI : Hid (IntsAt wr b off l) := hI
    have HJ : Hid (IntsAt wr b' off' r) := hJ
    have HA : Hid (∀ j, j < k → mB (intAt l j) (intAt r j) = true) := hall
    clear hB hI hJ hall
    by_cases hlt : k < 4
    · obtain ⟨x, hx⟩ : ∃ x, x = intAt l k := ⟨_, rfl⟩
      obtain ⟨y, hy⟩ : ∃ y, y = intAt r k := ⟨_, rfl⟩
      have fx := Beyond.ints HI.out (k := k) (by rw [HL.out]; exact hlt) hx
      have fy := Beyond.ints HJ.out (k := k) (by rw [HR.out]; exact hlt) hy
      have HX : Hid (x = intAt l k) := hx
      have HY : Hid (y = intAt r k) := hy
      have gx : -1 ≤ x := hx ▸ HL1.out k hlt
      have gy : -1 ≤ y := hy ▸ HR1.out k hlt
      clear hx hy
      have hki : (k : Int) < 4 := by omega
      by_cases e1 : x = -1
      case pos =>
        have d1 : decide ((0 : Int) ≤ x) = false := by simp [e1]
        have HF : Hid (mB x y = true) := by show _ = _; simp [mB, *]
        clear e1
        go_wp2_with fail
        refine wp_region_beyond (by kernel_rfl) (by kernel_rfl) ?_
        repeat (go_big_quiet_step (fail))
        refine wpQuiet_nil ?_
        rintro w2 ⟨⟨_, hb2⟩, rfl⟩
        clear fx fy
        go_wp2
        go_roundw
        case rel => exact ⟨k + 1, by omega, by go_num, HB.out.trans (hb2.mono HB.out.size), HI.out.below hb2 HI.out.1, HJ.out.below hb2 HJ.out.1, fun j hj => by
          by_cases e : j < k
          · exact HA.out j e
          · rw [show j = k by omega, ← HX.out, ← HY.out]; exact HF.out⟩
        case measure => simp [intOf]; omega
      have d1 : decide ((0 : Int) ≤ x) = true := by simp; omega
      by_cases e2 : y = -1
      case pos =>
        have d2 : decide ((0 : Int) ≤ y) = false := by simp [e2]
        have HF : Hid (mB x y = true) := by show _ = _; simp [mB, *]
        clear e1 e2
        go_wp2_with fail
        refine wp_region_beyond (by kernel_rfl) (by kernel_rfl) ?_
        repeat (go_big_quiet_step (fail))
        refine wpQuiet_nil ?_
        rintro w2 ⟨⟨_, hb2⟩, rfl⟩
        clear fx fy
        go_wp2
        go_roundw
        case rel => exact ⟨k + 1, by omega, by go_num, HB.out.trans (hb2.mono HB.out.size), HI.out.below hb2 HI.out.1, HJ.out.below hb2 HJ.out.1, fun j hj => by
          by_cases e : j < k
          · exact HA.out j e
          · rw [show j = k by omega, ← HX.out, ← HY.out]; exact HF.out⟩
        case measure => simp [intOf]; omega
      have d2 : decide ((0 : Int) ≤ y) = true := by simp; omega
      by_cases e3 : x = y
      case pos =>
        have d3 : (x != y) = false := by simp [e3]
        have HF : Hid (mB x y = true) := by show _ = _; simp [mB, *]
        clear e1 e2 e3
        go_wp2_with fail
        refine wp_region_beyond (by kernel_rfl) (by kernel_rfl) ?_
        repeat (go_big_quiet_step (fail))
        refine wpQuiet_nil ?_
        rintro w2 ⟨⟨_, hb2⟩, rfl⟩
        clear fx fy
        go_wp2
        go_roundw
        case rel => exact ⟨k + 1, by omega, by go_num, HB.out.trans (hb2.mono HB.out.size), HI.out.below hb2 HI.out.1, HJ.out.below hb2 HJ.out.1, fun j hj => by
          by_cases e : j < k
          · exact HA.out j e
          · rw [show j = k by omega, ← HX.out, ← HY.out]; exact HF.out⟩
        case measure => simp [intOf]; omega
      have d3 : (x != y) = true := by simp [e3]
      have HF : Hid (mB x y = false) := by show _ = _; simp [mB, *]
      clear e1 e2 e3
      go_wp2_with fail
      refine wp_region_beyond (by kernel_rfl) (by kernel_rfl) ?_
      repeat (go_big_quiet_step (fail))
      refine wpQuiet_nil ?_
      rintro w2 ⟨⟨_, hb2⟩, rfl⟩
      clear fx fy
      go_wp2
      go_ret
      exact ⟨ret_bool (all4_no hlt (by rw [← HX.out, ← HY.out]; exact HF.out)).symm, HB.out.trans (hb2.mono HB.out.size)⟩
    · go_wp2
      go_ret
      exact ⟨ret_bool (all4_yes (fun j hj => HA.out j (by omega))).symm, HB.out⟩
end Go.Proofs.Ytofbholpggkjcaa

/- Vectors: the specification's Meets and Refines. -/
namespace Go.Proofs.Ytofbholpggkjcaa
open Go.RowKit
theorem vok_at {l : List Int} (h : vok l = true) (j : Nat) (hj : j < 4) : -1 ≤ intAt l j ∧ intAt l j ≤ 1 := by
  obtain ⟨a, b, c, d, rfl, h0, h1, h2, h3⟩ := vok_four h
  have hj4 : j = 0 ∨ j = 1 ∨ j = 2 ∨ j = 3 := by omega
  rcases hj4 with rfl | rfl | rfl | rfl
  · exact h0
  · exact h1
  · exact h2
  · exact h3
theorem vok_len4 {l : List Int} (h : vok l = true) : l.length = 4 := by
  simp only [vok, Bool.and_eq_true, decide_eq_true_eq] at h; exact h.2
theorem IsI.four {w : World} {x : Value} {l : List Int} (h : IsI w x l) (hl : l.length = 4) : ∃ b off cap, x = .slice (some ⟨b, off, none⟩) 4 cap ∧ IntsAt w b off l := by
  obtain ⟨a, cap, rfl, _, _, h⟩ := h
  obtain ⟨b, off, rfl, h'⟩ := h.resolve_left (by rintro rfl; simp at hl)
  exact ⟨b, off, cap, by rw [hl], h'⟩
set_option maxHeartbeats 1000000 in
theorem sMeets_any (x y : Value) (l r : List Int) (w : World) (hl : l.length ≤ 4611686018427387904) (hr : r.length ≤ 4611686018427387904) (h : IsI w x l) (k : IsI w y r) :
    Calls Try.prog 25 #[x, y] w fun e w' => e = .returned (.bool (vok l && vok r && meetB l r)) ∧ Below w.heap.size w w' := by
  have H : Hid (Calls Try.prog 9 #[x] w fun e w' => e = .returned (.bool (vok l)) ∧ w' = w) := sVok_any x l w hl h
  have K : Hid (Calls Try.prog 9 #[y] w fun e w' => e = .returned (.bool (vok r)) ∧ w' = w) := sVok_any y r w hr k
  cases hv : vok l with
  | false =>
    rw [hv] at H
    clear h k
    go_enter Try.func25, Try.ntmps25
    go_wp2_with fail
    refine H.out.mono ?_
    rintro e w1 ⟨rfl, hw⟩
    obtain rfl := hw.symm
    go_wp2
    go_ret
    exact ⟨rfl, Below.refl _ _⟩
  | true =>
    cases hu : vok r with
    | false =>
      rw [hv] at H
      rw [hu] at K
      clear h k
      go_enter Try.func25, Try.ntmps25
      go_wp2_with fail
      refine H.out.mono ?_
      rintro e w1 ⟨rfl, hw⟩
      obtain rfl := hw.symm
      go_wp2_with fail
      refine K.out.mono ?_
      rintro e w1 ⟨rfl, hw⟩
      obtain rfl := hw.symm
      go_wp2
      go_ret
      exact ⟨rfl, Below.refl _ _⟩
    | true =>
      rw [hv] at H
      rw [hu] at K
      obtain ⟨b, off, cap, rfl, hI⟩ := h.four (vok_len4 hv)
      obtain ⟨b', off', cap', rfl, hJ⟩ := k.four (vok_len4 hu)
      have M : Hid (Calls Try.prog 37 #[.slice (some ⟨b, off, none⟩) 4 cap, .slice (some ⟨b', off', none⟩) 4 cap'] w fun e w' => e = .returned (.bool (meetB l r)) ∧ Below w.heap.size w w') := l6meet_any b off cap b' off' cap' l r w (vok_len4 hv) (vok_len4 hu) (fun j hj => (vok_at hv j hj).1) (fun j hj => (vok_at hu j hj).1) hI hJ
      generalize meetB l r = m at M ⊢
      clear h k hI hJ
      go_enter Try.func25, Try.ntmps25
      go_wp2_with fail
      refine H.out.mono ?_
      rintro e w1 ⟨rfl, hw⟩
      obtain rfl := hw.symm
      go_wp2_with fail
      refine K.out.mono ?_
      rintro e w1 ⟨rfl, hw⟩
      obtain rfl := hw.symm
      go_wp2_with fail
      refine M.out.mono ?_
      rintro e w1 ⟨rfl, hb1⟩
      go_wp2
      go_ret
      exact ⟨rfl, hb1⟩
end Go.Proofs.Ytofbholpggkjcaa

