/- VCmp, VOpen, VLow -/
import Derived.Test.YtofbholpggkjcaaExactVectorCmpG03
import Derived.Test.YtofbholpggkjcaaExactVectorCmpG00
import Derived.ProofKit
import Derived.ChangeOld
import Derived.OpenShut
import Derived.SizedLaws
/- Vectors: both VectorCmp. -/
namespace Go.Proofs.Ytofbholpggkjcaa
open Go.RowKit
def numC (a b : Int) : Int := if a < b then -1 else if b < a then 1 else 0
def cmpV (l r : List Int) : Int :=
  if intAt l 0 ≠ intAt r 0 then numC (intAt l 0) (intAt r 0) else if intAt l 1 ≠ intAt r 1 then numC (intAt l 1) (intAt r 1) else
  if intAt l 2 ≠ intAt r 2 then numC (intAt l 2) (intAt r 2) else if intAt l 3 ≠ intAt r 3 then numC (intAt l 3) (intAt r 3) else 0
theorem cmpV_at {l r : List Int} {k : Nat} (hk : k < 4) (hs : ∀ j, j < k → intAt l j = intAt r j) (h : intAt l k ≠ intAt r k) : cmpV l r = numC (intAt l k) (intAt r k) := by
  have hk4 : k = 0 ∨ k = 1 ∨ k = 2 ∨ k = 3 := by omega
  unfold cmpV
  rcases hk4 with rfl | rfl | rfl | rfl
  · rw [if_pos h]
  · rw [if_neg (by simp [hs 0 (by omega)]), if_pos h]
  · rw [if_neg (by simp [hs 0 (by omega)]), if_neg (by simp [hs 1 (by omega)]), if_pos h]
  · rw [if_neg (by simp [hs 0 (by omega)]), if_neg (by simp [hs 1 (by omega)]), if_neg (by simp [hs 2 (by omega)]), if_pos h]
theorem cmpV_same {l r : List Int} (hs : ∀ j, j < 4 → intAt l j = intAt r j) : cmpV l r = 0 := by
  simp [cmpV, hs 0 (by omega), hs 1 (by omega), hs 2 (by omega), hs 3 (by omega)]
theorem numC_ne {a b : Int} (h : a ≠ b) : numC a b = -1 ∨ numC a b = 1 := by unfold numC; split <;> (try split) <;> omega
set_option maxHeartbeats 400000 in
theorem l1num_any (a b : Int) (w : World) : Calls Try.prog 34 #[.int .i64 a, .int .i64 b] w fun e w' => e = .returned (.int .i64 (numC a b)) ∧ w' = w := by
  go_enter Try.func34, Try.ntmps34
  go_wp2
  all_goals
    go_ret
    exact ⟨ret_int (by simp [numC, *] <;> omega), rfl⟩
set_option maxHeartbeats 400000 in
theorem isNaN_any (a : Int) (w : World) : Calls Try.prog 43 #[.int .i64 a] w fun e w' => e = .returned (.bool false) ∧ w' = w := by
  go_enter Try.func43, Try.ntmps43
  go_wp2
  go_ret
  exact ⟨ret_bool (by simp), rfl⟩
set_option maxHeartbeats 400000 in
theorem compare_any (a b : Int) (w : World) : Calls Try.prog 42 #[.int .i64 a, .int .i64 b] w fun e w' => e = .returned (.int .i64 (numC a b)) ∧ w' = w := by
  go_enter Try.func42, Try.ntmps42
  go_wp2_with (go_at_call 43; refine (isNaN_any _ _).mono ?_; rintro e w1 ⟨rfl, hw⟩; obtain rfl := hw.symm)
  all_goals
    go_ret
    exact ⟨ret_int (by simp [numC, *] <;> omega), rfl⟩

set_option maxHeartbeats 2000000 in
theorem libCmp_any (b b' : Nat) (l r : List Int) (w : World) (hl : l.length = 4) (hr : r.length = 4) (hI : IntsAt w b 0 l) (hJ : IntsAt w b' 0 r) :
    Calls Try.prog 36 #[sl b 4, sl b' 4] w fun e w' => e = .returned (.int .i64 (cmpV l r)) ∧ Below w.heap.size w w' := by
  have HL : Hid (l.length = 4) := hl
  have HR : Hid (r.length = 4) := hr
  have HI0 : Hid (IntsAt w b 0 l) := hI
  have HJ0 : Hid (IntsAt w b' 0 r) := hJ
  clear hl hr hI hJ
  go_enter Try.func36, Try.ntmps36
  go_wp2
  go_loopw [11] (fun i wr => ∃ k : Nat, k ≤ 4 ∧ i = .int .i64 k ∧ Below w.heap.size w wr ∧ ∀ j, j < k → intAt l j = intAt r j) (fun i _ => 4 - (intOf i).toNat)
  case atStart => exact ⟨0, by omega, rfl, Below.refl _ _, fun j hj => by omega⟩
  case round =>
    obtain ⟨k, hk, rfl, hB, hall⟩ := hrel
    have HB : Hid (Below w.heap.size w wr) := hB
    have HA : Hid (∀ j, j < k → intAt l j = intAt r j) := hall
    clear hall
    by_cases hlt : k < 4
    · obtain ⟨x, hx⟩ : ∃ x, x = intAt l k := ⟨_, rfl⟩
      obtain ⟨y, hy⟩ : ∃ y, y = intAt r k := ⟨_, rfl⟩
      have fx := (hB.cell (p := ⟨b, 0 + k, none⟩) HI0.out.1).trans (HI0.out.2 k (by rw [HL.out]; exact hlt))
      have fy := (hB.cell (p := ⟨b', 0 + k, none⟩) HJ0.out.1).trans (HJ0.out.2 k (by rw [HR.out]; exact hlt))
      rw [← hx] at fx
      rw [← hy] at fy
      have gx : ∀ p : Beyond wr, p.w.cell? ⟨b, 0 + k, none⟩ = some (.int .i64 x) := fun p => p.cell (Nat.lt_of_lt_of_le HI0.out.1 HB.out.size) fx
      have gy : ∀ p : Beyond wr, p.w.cell? ⟨b', 0 + k, none⟩ = some (.int .i64 y) := fun p => p.cell (Nat.lt_of_lt_of_le HJ0.out.1 HB.out.size) fy
      simp only [Nat.zero_add] at fx fy gx gy
      have HX : Hid (x = intAt l k) := hx
      have HY : Hid (y = intAt r k) := hy
      clear hx hy hB
      have hki : (k : Int) < 4 := by omega
      by_cases e3 : x = y
      · have d3 : (x != y) = false := by simp [e3]
        have HE : Hid (x = y) := e3
        have HN : Hid (numC x y = 0) := by show _ = _; simp [numC, e3]
        clear e3
        go_wp2_with fail
        refine (compare_any _ _ _).mono ?_
        rintro e w1 ⟨rfl, hw⟩
        obtain rfl := hw.symm
        rw [HN.out]
        go_wp2
        go_roundw
        case rel => exact ⟨k + 1, by omega, by go_num, HB.out, fun j hj => by
          by_cases e : j < k
          · exact HA.out j e
          · rw [show j = k by omega, ← HX.out, ← HY.out]; exact HE.out⟩
        case measure => simp [intOf]; omega
      · have d3 : (x != y) = true := by simp [e3]
        have HV : Hid (cmpV l r = numC x y) := by
          have := cmpV_at (l := l) (r := r) hlt HA.out (by rw [← HX.out, ← HY.out]; exact e3)
          rw [← HX.out, ← HY.out] at this
          exact this
        have HN : Hid (numC x y = -1 ∨ numC x y = 1) := numC_ne e3
        clear e3
        go_wp2_with fail
        refine (compare_any _ _ _).mono ?_
        rintro e w1 ⟨rfl, hw⟩
        obtain rfl := hw.symm
        obtain hn | hn := HN.out
        · rw [hn]
          go_wp2
          go_ret
          exact ⟨ret_int (by rw [HV.out, hn]), HB.out⟩
        · rw [hn]
          go_wp2
          go_ret
          exact ⟨ret_int (by rw [HV.out, hn]), HB.out⟩
    · have HV : Hid (cmpV l r = 0) := cmpV_same (fun j hj => HA.out j (by omega))
      clear hB
      go_wp2
      go_ret
      exact ⟨ret_int HV.out.symm, HB.out⟩
set_option maxHeartbeats 2000000 in
theorem sCmpYes (b off cap b' off' cap' : Nat) (l r : List Int) (w : World) (hl : l.length = 4) (hr : r.length = 4) (hI : IntsAt w b off l) (hJ : IntsAt w b' off' r) (H : Calls Try.prog 9 #[.slice (some ⟨b, off, none⟩) 4 cap] w fun e w' => e = .returned (.bool true) ∧ w' = w) (K : Calls Try.prog 9 #[.slice (some ⟨b', off', none⟩) 4 cap'] w fun e w' => e = .returned (.bool true) ∧ w' = w) :
    Calls Try.prog 23 #[.slice (some ⟨b, off, none⟩) 4 cap, .slice (some ⟨b', off', none⟩) 4 cap'] w fun e w' => e = .returned (.int .i64 (cmpV l r)) ∧ Below w.heap.size w w' := by
  have HL : Hid (l.length = 4) := hl
  have HR : Hid (r.length = 4) := hr
  have HI0 : Hid (IntsAt w b off l) := hI
  have HJ0 : Hid (IntsAt w b' off' r) := hJ
  clear hl hr hI hJ
  have H' : Hid (Calls Try.prog 9 #[.slice (some ⟨b, off, none⟩) 4 cap] w fun e w' => e = .returned (.bool true) ∧ w' = w) := H
  have K' : Hid (Calls Try.prog 9 #[.slice (some ⟨b', off', none⟩) 4 cap'] w fun e w' => e = .returned (.bool true) ∧ w' = w) := K
  clear H K
  go_enter Try.func23, Try.ntmps23
  go_wp2_with fail
  refine H'.out.mono ?_
  rintro e w1 ⟨rfl, hw⟩
  obtain rfl := hw.symm
  go_wp2_with fail
  refine K'.out.mono ?_
  rintro e w1 ⟨rfl, hw⟩
  obtain rfl := hw.symm
  clear H' K'
  go_wp2
  go_loopw [5] (fun i wr => ∃ k : Nat, k ≤ 4 ∧ i = .int .i64 k ∧ Below w.heap.size w wr ∧ ∀ j, j < k → intAt l j = intAt r j) (fun i _ => 4 - (intOf i).toNat)
  case atStart => exact ⟨0, by omega, rfl, Below.refl _ _, fun j hj => by omega⟩
  case round =>
    obtain ⟨k, hk, rfl, hB, hall⟩ := hrel
    have HB : Hid (Below w.heap.size w wr) := hB
    have HA : Hid (∀ j, j < k → intAt l j = intAt r j) := hall
    clear hall
    by_cases hlt : k < 4
    · obtain ⟨x, hx⟩ : ∃ x, x = intAt l k := ⟨_, rfl⟩
      obtain ⟨y, hy⟩ : ∃ y, y = intAt r k := ⟨_, rfl⟩
      have fx := (hB.cell (p := ⟨b, off + k, none⟩) HI0.out.1).trans (HI0.out.2 k (by rw [HL.out]; exact hlt))
      have fy := (hB.cell (p := ⟨b', off' + k, none⟩) HJ0.out.1).trans (HJ0.out.2 k (by rw [HR.out]; exact hlt))
      rw [← hx] at fx
      rw [← hy] at fy
      have gx : ∀ p : Beyond wr, p.w.cell? ⟨b, off + k, none⟩ = some (.int .i64 x) := fun p => p.cell (Nat.lt_of_lt_of_le HI0.out.1 HB.out.size) fx
      have gy : ∀ p : Beyond wr, p.w.cell? ⟨b', off' + k, none⟩ = some (.int .i64 y) := fun p => p.cell (Nat.lt_of_lt_of_le HJ0.out.1 HB.out.size) fy
      have HX : Hid (x = intAt l k) := hx
      have HY : Hid (y = intAt r k) := hy
      clear hx hy hB
      have hki : (k : Int) < 4 := by omega
      by_cases e3 : x = y
      · have d3 : (x != y) = false := by simp [e3]
        have HE : Hid (x = y) := e3
        have HN : Hid (numC x y = 0) := by show _ = _; simp [numC, e3]
        clear e3
        go_wp2_with fail
        refine wp_region_beyond (by kernel_rfl) (by kernel_rfl) ?_
        repeat (go_big_quiet_step (fail))
        refine wpQuiet_nil ?_
        rintro w2 ⟨⟨_, hb2⟩, rfl⟩
        clear fx fy gx gy
        go_wp2
        go_roundw
        case rel => exact ⟨k + 1, by omega, by go_num, HB.out.trans (hb2.mono HB.out.size), fun j hj => by
          by_cases e : j < k
          · exact HA.out j e
          · rw [show j = k by omega, ← HX.out, ← HY.out]; exact HE.out⟩
        case measure => simp [intOf]; omega
      · have d3 : (x != y) = true := by simp [e3]
        have HV : Hid (cmpV l r = numC x y) := by
          have := cmpV_at (l := l) (r := r) hlt HA.out (by rw [← HX.out, ← HY.out]; exact e3)
          rw [← HX.out, ← HY.out] at this
          exact this
        have HN : Hid (numC x y = -1 ∨ numC x y = 1) := numC_ne e3
        clear e3
        go_wp2_with fail
        refine wp_region_beyond (by kernel_rfl) (by kernel_rfl) ?_
        repeat (go_big_quiet_step (fail))
        refine wpQuiet_nil ?_
        rintro w2 ⟨⟨_, hb2⟩, rfl⟩
        have HB2 : Hid (Below w.heap.size w w2) := HB.out.trans (hb2.mono HB.out.size)
        have ux : ∀ p : Beyond w2, p.w.cell? ⟨b, off + k, none⟩ = some (.int .i64 x) := fun p => p.cell (Nat.lt_of_lt_of_le HI0.out.1 HB2.out.size) ((hb2.cell (p := ⟨b, off + k, none⟩) (Nat.lt_of_lt_of_le HI0.out.1 HB.out.size)).trans fx)
        have uy : ∀ p : Beyond w2, p.w.cell? ⟨b', off' + k, none⟩ = some (.int .i64 y) := fun p => p.cell (Nat.lt_of_lt_of_le HJ0.out.1 HB2.out.size) ((hb2.cell (p := ⟨b', off' + k, none⟩) (Nat.lt_of_lt_of_le HJ0.out.1 HB.out.size)).trans fy)
        clear fx fy gx gy hb2
        go_wp2_with fail
        refine wp_region_beyond (by kernel_rfl) (by kernel_rfl) ?_
        repeat (go_big_quiet_step (first | (go_at_call 34; exact Beyond.of ((l1num_any x y _).mono fun e w' ⟨a, b⟩ => ⟨a, b ▸ Below.refl _ _⟩))))
        refine wpQuiet_nil ?_
        rintro w3 ⟨⟨_, hb3⟩, rfl⟩
        clear ux uy
        go_wp2
        go_ret
        exact ⟨ret_int HV.out.symm, HB2.out.trans (hb3.mono HB2.out.size)⟩
    · have HV : Hid (cmpV l r = 0) := cmpV_same (fun j hj => HA.out j (by omega))
      clear hB
      go_wp2
      go_ret
      exact ⟨ret_int HV.out.symm, HB.out⟩

set_option maxHeartbeats 1000000 in
theorem sCmp_any (x y : Value) (l r : List Int) (w : World) (hl : l.length ≤ 4611686018427387904) (hr : r.length ≤ 4611686018427387904) (h : IsI w x l) (k : IsI w y r) :
    Calls Try.prog 23 #[x, y] w fun e w' => e = .returned (.int .i64 (if (vok l && vok r) = true then cmpV l r else 0)) ∧ Below w.heap.size w w' := by
  have H : Hid (Calls Try.prog 9 #[x] w fun e w' => e = .returned (.bool (vok l)) ∧ w' = w) := sVok_any x l w hl h
  have K : Hid (Calls Try.prog 9 #[y] w fun e w' => e = .returned (.bool (vok r)) ∧ w' = w) := sVok_any y r w hr k
  cases hv : vok l with
  | false =>
    rw [hv] at H
    clear h k
    go_enter Try.func23, Try.ntmps23
    go_wp2_with fail
    refine H.out.mono ?_
    rintro e w1 ⟨rfl, hw⟩
    obtain rfl := hw.symm
    go_wp2
    go_ret
    exact ⟨rfl, Below.refl _ _⟩
  | true =>
    cases hu : vok r with
    | false =>
      rw [hv] at H
      rw [hu] at K
      clear h k
      go_enter Try.func23, Try.ntmps23
      go_wp2_with fail
      refine H.out.mono ?_
      rintro e w1 ⟨rfl, hw⟩
      obtain rfl := hw.symm
      go_wp2_with fail
      refine K.out.mono ?_
      rintro e w1 ⟨rfl, hw⟩
      obtain rfl := hw.symm
      go_wp2
      go_ret
      exact ⟨rfl, Below.refl _ _⟩
    | true =>
      rw [hv] at H
      rw [hu] at K
      obtain ⟨b, off, cap, rfl, hI⟩ := h.four (vok_len4 hv)
      obtain ⟨b', off', cap', rfl, hJ⟩ := k.four (vok_len4 hu)
      exact sCmpYes b off cap b' off' cap' l r w (vok_len4 hv) (vok_len4 hu) hI hJ H.out K.out
set_option maxHeartbeats 1000000 in
theorem iCmp_any (x y : Value) (l r : List Int) (w : World) (hl : l.length ≤ 4611686018427387904) (hr : r.length ≤ 4611686018427387904) (h : IsI w x l) (k : IsI w y r) :
    Calls Try.prog 24 #[x, y] w fun e w' => e = .returned (.int .i64 (if (vok l && vok r) = true then cmpV l r else 0)) ∧ Below w.heap.size w w' := by
  have H := two_any x y l r w hl hr h k
  cases hv : (vok l && vok r) with
  | false =>
    rw [hv] at H
    obtain ⟨p0, p1, p2, p3, hp⟩ := vecOf_form l
    obtain ⟨q0, q1, q2, q3, hq⟩ := vecOf_form r
    rw [hp, hq] at H
    clear hp hq
    go_enter Try.func24, Try.ntmps24
    go_wp2_with fail
    refine H.mono ?_
    rintro e w1 ⟨rfl, hb1⟩
    go_wp2
    go_ret
    exact ⟨rfl, (hb1.alloc hb1.size _).alloc (by have := hb1.size; simp; omega) _⟩
  | true =>
    rw [hv] at H
    rw [Bool.and_eq_true] at hv
    obtain ⟨a0, a1, a2, a3, rfl, _⟩ := vok_four hv.1
    obtain ⟨b0, b1, b2, b3, rfl, _⟩ := vok_four hv.2
    rw [vecOf_four _ _ _ _ hv.1, vecOf_four _ _ _ _ hv.2] at H
    go_enter Try.func24, Try.ntmps24
    go_wp2_with fail
    refine H.mono ?_
    rintro e w1 ⟨rfl, hb1⟩
    go_wp2_with fail
    have h1 : IntsAt ((w1.alloc (cell4 a0 a1 a2 a3)).alloc (cell4 b0 b1 b2 b3)) w1.heap.size 0 [a0, a1, a2, a3] := ((V4.new w1 a0 a1 a2 a3).alloc _).ints
    have h2 : IntsAt ((w1.alloc (cell4 a0 a1 a2 a3)).alloc (cell4 b0 b1 b2 b3)) (w1.heap.size + 1) 0 [b0, b1, b2, b3] := by have := (V4.new (w1.alloc (cell4 a0 a1 a2 a3)) b0 b1 b2 b3).ints; rwa [show (w1.alloc (cell4 a0 a1 a2 a3)).heap.size = w1.heap.size + 1 by simp] at this
    have HB : Hid (Below w.heap.size w ((w1.alloc (cell4 a0 a1 a2 a3)).alloc (cell4 b0 b1 b2 b3))) := (hb1.alloc hb1.size _).alloc (by have := hb1.size; simp; omega) _
    clear hb1 h k H
    generalize (w1.alloc (cell4 a0 a1 a2 a3)).alloc (cell4 b0 b1 b2 b3) = W at h1 h2 HB ⊢
    have H1 : Hid (IntsAt W w1.heap.size 0 [a0, a1, a2, a3]) := h1
    have H2 : Hid (IntsAt W (w1.heap.size + 1) 0 [b0, b1, b2, b3]) := h2
    clear h1 h2
    have hC : Hid (∀ p : Beyond W, Calls Try.prog 36 #[sl w1.heap.size 4, sl (w1.heap.size + 1) 4] p.w fun e w' => e = .returned (.int .i64 (cmpV [a0, a1, a2, a3] [b0, b1, b2, b3])) ∧ Below p.w.heap.size p.w w') := fun p => libCmp_any _ _ _ _ _ rfl rfl (H1.out.below p.h H1.out.1) (H2.out.below p.h H2.out.1)
    refine wp_region_beyond (by kernel_rfl) (by kernel_rfl) ?_
    repeat (go_big_quiet_step (first | (go_at_call 36; exact Beyond.of (hC.out _))))
    refine wpQuiet_nil ?_
    rintro w2 ⟨⟨_, hb2⟩, rfl⟩
    go_wp2
    go_ret
    exact ⟨rfl, HB.out.trans (hb2.mono HB.out.size)⟩
end Go.Proofs.Ytofbholpggkjcaa

/- How a list of numbers that came in is read. -/
namespace Go.Proofs.Ytofbholpggkjcaa
open Go.ChangeShapes Go.WideShapes Go.ChangeAt Go.RowKit

theorem own : ownKnob Try.prog.godebug = none := by kernel_rfl
theorem laidOut : laidOutB Try.prog = true := by kernel_rfl
theorem cells3 : Try.prog.cellsOf 3 = 1 := by kernel_rfl
theorem add_plain (b off n : Nat) : (⟨b, off, none⟩ : Addr).add n = ⟨b, off + n, none⟩ := by
  unfold Addr.add
  split <;> simp_all
theorem ints_list {w : World} {b off : Nat} : ∀ n, (∀ i, i < n → ∃ z : Int, w.cell? ⟨b, off + i, none⟩ = some (.int .i64 z)) → ∃ l : List Int, l.length = n ∧ ∀ i, i < n → w.cell? ⟨b, off + i, none⟩ = some (.int .i64 (intAt l i))
  | 0, _ => ⟨[], rfl, fun i hi => by omega⟩
  | n + 1, h => by
    obtain ⟨l, hl, hi⟩ := ints_list n (fun i hi => h i (by omega))
    obtain ⟨e, he⟩ := h n (by omega)
    refine ⟨l ++ [e], by simp [hl], fun i hi' => ?_⟩
    by_cases hin : i < n
    · have : intAt (l ++ [e]) i = intAt l i := by unfold intAt; simp [List.getElem?_append_left (by omega : i < l.length)]
      rw [this]; exact hi i hin
    · have : intAt (l ++ [e]) i = e := by unfold intAt; simp [show i = l.length by omega]
      rw [this, show i = n by omega]; exact he
set_option maxRecDepth 100000 in
theorem open_ints' {H : Type} {enc : TypeId × Value → H} {w : World} {b0 : Nat} {spare : Nat → Bool} {held : Bool} {r : Reach} {v : Value} {d : DataW H} {p : List MemPlace}
    (hv : Value.okWide Try.prog w r b0 22 v) (h : DataW.Trod enc Try.prog w 0 spare held 22 v d p) : ∃ l : List Int, IsI w v l := by
  obtain ⟨a0, len, cap, rfl⟩ := okWide_slice Try.underlying22 hv
  obtain ⟨fuel, hf⟩ := h
  rcases DataW.trod_slice Try.underlying22 hf with ⟨hcs, _⟩ | ⟨a, len', cap', elems, rest, n, _, hcs, _, hb, hl, hm, hlen, hel, _, _⟩
  · simp [Value.cells] at hcs
    obtain ⟨rfl, rfl, rfl⟩ := hcs
    exact ⟨[], _, _, rfl, Nat.le_refl _, by unfold maxLen; omega, .inl rfl⟩
  · simp [Value.cells] at hcs
    obtain ⟨rfl, rfl, rfl⟩ := hcs
    by_cases h0 : len = 0
    · subst h0
      exact ⟨[], _, _, rfl, hl, hm, .inl rfl⟩
    · obtain ⟨b, off, spot⟩ := a
      have hs : spot = none := by
        have h1 := hel 0 (by omega)
        rw [cells3, List.getElem?_eq_getElem (by omega)] at h1
        obtain ⟨cs, hc, ht⟩ := Option.bind_eq_some_iff.1 h1
        obtain ⟨t, rfl, _⟩ := DataW.trod_int Try.underlying3 ht
        have c0 := (World.cells?_some hc).2.2 0 (by omega)
        simpa [Addr.add] using World.cell?_spot c0
      subst hs
      have each : ∀ i, i < len → ∃ z : Int, w.cell? ⟨b, off + i, none⟩ = some (.int .i64 z) ∧ b < w.heap.size := by
        intro i hi
        have h1 := hel i hi
        rw [cells3, List.getElem?_eq_getElem (by omega), add_plain] at h1
        obtain ⟨cs, hc, ht⟩ := Option.bind_eq_some_iff.1 h1
        obtain ⟨t, rfl, _, hw⟩ := DataW.trod_int Try.underlying3 ht
        have hblk : b < w.heap.size := World.cells?_block hc (by omega)
        obtain ⟨_, _, hcell⟩ := World.cells?_some hc
        have h2 := hcell 0 (by omega)
        simp only [add_plain] at h2
        exact ⟨t, by simpa using h2, hblk⟩
      obtain ⟨_, _, hblk⟩ := each 0 (by omega)
      obtain ⟨l, rfl, hi⟩ := ints_list (w := w) (b := b) (off := off) len (fun i hi => by
        obtain ⟨e, he, _⟩ := each i hi
        exact ⟨e, he⟩)
      exact ⟨l, _, _, rfl, hl, hm, .inr ⟨b, off, rfl, hblk, hi⟩⟩
end Go.Proofs.Ytofbholpggkjcaa

/- Rows of numbers: what stays where another row turns. -/
namespace Go.Proofs.Ytofbholpggkjcaa
open Go.RowKit
/- As IsI, in a block below B. -/
def LowI (B : Nat) (w : World) (x : Value) (l : List Int) : Prop := ∃ a cap, x = .slice a l.length cap ∧ l.length ≤ cap ∧ cap ≤ maxLen ∧ (l = [] ∨ ∃ b off, a = some ⟨b, off, none⟩ ∧ b < B ∧ IntsAt w b off l)
theorem LowI.isI {B : Nat} {w : World} {x : Value} {l : List Int} (h : LowI B w x l) : IsI w x l := by
  obtain ⟨a, cap, rfl, h1, h2, h⟩ := h
  exact ⟨a, cap, rfl, h1, h2, h.imp id (fun ⟨b, off, e, _, h⟩ => ⟨b, off, e, h⟩)⟩
theorem IsI.low {w : World} {x : Value} {l : List Int} (h : IsI w x l) : LowI w.heap.size w x l := by
  obtain ⟨a, cap, rfl, h1, h2, h⟩ := h
  exact ⟨a, cap, rfl, h1, h2, h.imp id (fun ⟨b, off, e, h⟩ => ⟨b, off, e, h.1, h⟩)⟩
theorem LowI.below {B : Nat} {w w' : World} {x : Value} {l : List Int} (h : LowI B w x l) (hb : Below B w w') : LowI B w' x l := by
  obtain ⟨a, cap, rfl, h1, h2, h⟩ := h
  exact ⟨a, cap, rfl, h1, h2, h.imp id (fun ⟨b, off, e, hB, h⟩ => ⟨b, off, e, hB, h.below hb hB⟩)⟩
theorem OwnI.other {B g : Nat} {w w' : World} {x : Value} {l : List Int} (h : OwnI B w x l) (hg : g < B) (hgr : w.grownBy w' (some g)) : OwnI B w' x l := by
  obtain ⟨a, cap, rfl, h1, h2, h⟩ := h
  refine ⟨a, cap, rfl, h1, h2, h.imp id ?_⟩
  rintro ⟨b, rfl, hB, hf, hr⟩
  have hk : w'.heap[b]? = w.heap[b]? := hgr.block b hr.1 (by intro e; have := Option.some.inj e; omega)
  have hc : ∀ o, w'.cell? ⟨b, o, none⟩ = w.cell? ⟨b, o, none⟩ := fun o => World.cell?_of_block (w := w) hk
  have hz : ∀ o, w'.frozen? ⟨b, o, none⟩ = w.frozen? ⟨b, o, none⟩ := fun o => World.frozen?_of_block (w := w) hk
  exact ⟨b, rfl, hB, fun j hj => (hz j).trans (hf j hj), Nat.lt_of_lt_of_le hr.1 hgr.size, fun i hi => (hc _).trans (hr.2 i hi)⟩
/- An answer: a list of one's own and a flag. -/
def AnsI (B : Nat) (r : List Int) (b : Bool) (e : Ending) (w' : World) : Prop := ∃ v, e = .returned (.tuple #[v, .bool b]) ∧ OwnI B w' v r
end Go.Proofs.Ytofbholpggkjcaa

