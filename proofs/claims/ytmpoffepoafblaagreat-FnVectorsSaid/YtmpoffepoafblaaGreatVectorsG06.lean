/- VDecI, VTwo, VImp -/
import Derived.Test.YtmpoffepoafblaaGreatVectorsG04
import Derived.Test.YtmpoffepoafblaaGreatVectorsG03
/- Vectors: the program's Decide. -/
namespace Go.Proofs.YtmpoffepoafblaaGreat
open Go.RowKit

set_option maxHeartbeats 1000000 in
theorem decidedNo0 (a0 a1 a2 a3 v : Int) (w : World) (h : (a0 != (-1 : Int)) = true) :
    Calls Tryz.prog 98 #[vec a0 a1 a2 a3, .int .i64 0, .int .i64 v] w fun e w' => e = .returned (.tuple #[vec a0 a1 a2 a3, .bool false]) ∧ Below w.heap.size w w' := by
  go_enter Tryz.func98, Tryz.ntmps98
  go_wp2
  exact bodyPost_ret (v := .tuple #[vec a0 a1 a2 a3, .bool false]) (by simp [results, Tryz.results98, go_sem]) rfl ⟨rfl, ((Below.refl _ w).alloc (Nat.le_refl _) _).alloc (by simp) _⟩
set_option maxHeartbeats 1000000 in
theorem decidedYes0 (a0 a1 a2 a3 v : Int) (w : World) (h : (a0 != (-1 : Int)) = false) :
    Calls Tryz.prog 98 #[vec a0 a1 a2 a3, .int .i64 0, .int .i64 v] w fun e w' => e = .returned (.tuple #[vec v a1 a2 a3, .bool true]) ∧ Below w.heap.size w w' := by
  go_enter Tryz.func98, Tryz.ntmps98
  go_wp2
  exact bodyPost_ret (v := .tuple #[vec v a1 a2 a3, .bool true]) (by simp [results, Tryz.results98, go_sem]) rfl ⟨rfl, ((Below.refl _ w).alloc (Nat.le_refl _) _).alloc (by simp) _⟩

set_option maxHeartbeats 1000000 in
theorem decidedNo1 (a0 a1 a2 a3 v : Int) (w : World) (h : (a1 != (-1 : Int)) = true) :
    Calls Tryz.prog 98 #[vec a0 a1 a2 a3, .int .i64 1, .int .i64 v] w fun e w' => e = .returned (.tuple #[vec a0 a1 a2 a3, .bool false]) ∧ Below w.heap.size w w' := by
  go_enter Tryz.func98, Tryz.ntmps98
  go_wp2
  exact bodyPost_ret (v := .tuple #[vec a0 a1 a2 a3, .bool false]) (by simp [results, Tryz.results98, go_sem]) rfl ⟨rfl, ((Below.refl _ w).alloc (Nat.le_refl _) _).alloc (by simp) _⟩
set_option maxHeartbeats 1000000 in
theorem decidedYes1 (a0 a1 a2 a3 v : Int) (w : World) (h : (a1 != (-1 : Int)) = false) :
    Calls Tryz.prog 98 #[vec a0 a1 a2 a3, .int .i64 1, .int .i64 v] w fun e w' => e = .returned (.tuple #[vec a0 v a2 a3, .bool true]) ∧ Below w.heap.size w w' := by
  go_enter Tryz.func98, Tryz.ntmps98
  go_wp2
  exact bodyPost_ret (v := .tuple #[vec a0 v a2 a3, .bool true]) (by simp [results, Tryz.results98, go_sem]) rfl ⟨rfl, ((Below.refl _ w).alloc (Nat.le_refl _) _).alloc (by simp) _⟩

set_option maxHeartbeats 1000000 in
theorem decidedNo2 (a0 a1 a2 a3 v : Int) (w : World) (h : (a2 != (-1 : Int)) = true) :
    Calls Tryz.prog 98 #[vec a0 a1 a2 a3, .int .i64 2, .int .i64 v] w fun e w' => e = .returned (.tuple #[vec a0 a1 a2 a3, .bool false]) ∧ Below w.heap.size w w' := by
  go_enter Tryz.func98, Tryz.ntmps98
  go_wp2
  exact bodyPost_ret (v := .tuple #[vec a0 a1 a2 a3, .bool false]) (by simp [results, Tryz.results98, go_sem]) rfl ⟨rfl, ((Below.refl _ w).alloc (Nat.le_refl _) _).alloc (by simp) _⟩
set_option maxHeartbeats 1000000 in
theorem decidedYes2 (a0 a1 a2 a3 v : Int) (w : World) (h : (a2 != (-1 : Int)) = false) :
    Calls Tryz.prog 98 #[vec a0 a1 a2 a3, .int .i64 2, .int .i64 v] w fun e w' => e = .returned (.tuple #[vec a0 a1 v a3, .bool true]) ∧ Below w.heap.size w w' := by
  go_enter Tryz.func98, Tryz.ntmps98
  go_wp2
  exact bodyPost_ret (v := .tuple #[vec a0 a1 v a3, .bool true]) (by simp [results, Tryz.results98, go_sem]) rfl ⟨rfl, ((Below.refl _ w).alloc (Nat.le_refl _) _).alloc (by simp) _⟩

set_option maxHeartbeats 1000000 in
theorem decidedNo3 (a0 a1 a2 a3 v : Int) (w : World) (h : (a3 != (-1 : Int)) = true) :
    Calls Tryz.prog 98 #[vec a0 a1 a2 a3, .int .i64 3, .int .i64 v] w fun e w' => e = .returned (.tuple #[vec a0 a1 a2 a3, .bool false]) ∧ Below w.heap.size w w' := by
  go_enter Tryz.func98, Tryz.ntmps98
  go_wp2
  exact bodyPost_ret (v := .tuple #[vec a0 a1 a2 a3, .bool false]) (by simp [results, Tryz.results98, go_sem]) rfl ⟨rfl, ((Below.refl _ w).alloc (Nat.le_refl _) _).alloc (by simp) _⟩
set_option maxHeartbeats 1000000 in
theorem decidedYes3 (a0 a1 a2 a3 v : Int) (w : World) (h : (a3 != (-1 : Int)) = false) :
    Calls Tryz.prog 98 #[vec a0 a1 a2 a3, .int .i64 3, .int .i64 v] w fun e w' => e = .returned (.tuple #[vec a0 a1 a2 v, .bool true]) ∧ Below w.heap.size w w' := by
  go_enter Tryz.func98, Tryz.ntmps98
  go_wp2
  exact bodyPost_ret (v := .tuple #[vec a0 a1 a2 v, .bool true]) (by simp [results, Tryz.results98, go_sem]) rfl ⟨rfl, ((Below.refl _ w).alloc (Nat.le_refl _) _).alloc (by simp) _⟩

/- What decided hands back: a list of four and a flag. -/
theorem decided_any (a0 a1 a2 a3 v : Int) (m : Nat) (hm : m < 4) : ∃ c0 c1 c2 c3 : Int, ([c0, c1, c2, c3] = if intAt [a0, a1, a2, a3] m = -1 then [a0, a1, a2, a3].set m v else [a0, a1, a2, a3]) ∧
    ∀ w, Calls Tryz.prog 98 #[vec a0 a1 a2 a3, .int .i64 (m : Int), .int .i64 v] w fun e w' => e = .returned (.tuple #[vec c0 c1 c2 c3, .bool (decide (intAt [a0, a1, a2, a3] m = -1))]) ∧ Below w.heap.size w w' := by
  have hm4 : m = 0 ∨ m = 1 ∨ m = 2 ∨ m = 3 := by omega
  rcases hm4 with rfl | rfl | rfl | rfl
  · by_cases h : a0 = -1
    · refine ⟨v, a1, a2, a3, by simp [intAt, h], fun w => (decidedYes0 a0 a1 a2 a3 v w (by simp [h])).mono fun e w' ⟨x, y⟩ => ⟨x.trans (by simp [intAt, h]), y⟩⟩
    · refine ⟨a0, a1, a2, a3, by simp [intAt, h], fun w => (decidedNo0 a0 a1 a2 a3 v w (by simp [h])).mono fun e w' ⟨x, y⟩ => ⟨x.trans (by simp [intAt, h]), y⟩⟩
  · by_cases h : a1 = -1
    · refine ⟨a0, v, a2, a3, by simp [intAt, h], fun w => (decidedYes1 a0 a1 a2 a3 v w (by simp [h])).mono fun e w' ⟨x, y⟩ => ⟨x.trans (by simp [intAt, h]), y⟩⟩
    · refine ⟨a0, a1, a2, a3, by simp [intAt, h], fun w => (decidedNo1 a0 a1 a2 a3 v w (by simp [h])).mono fun e w' ⟨x, y⟩ => ⟨x.trans (by simp [intAt, h]), y⟩⟩
  · by_cases h : a2 = -1
    · refine ⟨a0, a1, v, a3, by simp [intAt, h], fun w => (decidedYes2 a0 a1 a2 a3 v w (by simp [h])).mono fun e w' ⟨x, y⟩ => ⟨x.trans (by simp [intAt, h]), y⟩⟩
    · refine ⟨a0, a1, a2, a3, by simp [intAt, h], fun w => (decidedNo2 a0 a1 a2 a3 v w (by simp [h])).mono fun e w' ⟨x, y⟩ => ⟨x.trans (by simp [intAt, h]), y⟩⟩
  · by_cases h : a3 = -1
    · refine ⟨a0, a1, a2, v, by simp [intAt, h], fun w => (decidedYes3 a0 a1 a2 a3 v w (by simp [h])).mono fun e w' ⟨x, y⟩ => ⟨x.trans (by simp [intAt, h]), y⟩⟩
    · refine ⟨a0, a1, a2, a3, by simp [intAt, h], fun w => (decidedNo3 a0 a1 a2 a3 v w (by simp [h])).mono fun e w' ⟨x, y⟩ => ⟨x.trans (by simp [intAt, h]), y⟩⟩

set_option maxHeartbeats 2000000 in
theorem iDecide_any (x : Value) (d v : Int) (l : List Int) (w : World) (hl : l.length ≤ 1048576) (h : IsI w x l) :
    Calls Tryz.prog 41 #[x, .int .i64 d, .int .i64 v] w fun e w' => ∃ u, e = .returned (.tuple #[u, .bool (decF l d v)]) ∧ OwnI w.heap.size w' u (decR l d v) ∧ Below w.heap.size w w' := by
  have H := of_any x l w (by omega) h
  cases hB : decB l d v with
  | false =>
    have HN : Hid (decF l d v = false ∧ decR l d v = []) := dec_no hB
    obtain ⟨p0, p1, p2, p3, hp⟩ : ∃ a b c d : Int, vecOf l = vec a b c d := by
      unfold vecOf; split
      · exact ⟨_, _, _, _, rfl⟩
      · exact ⟨0, 0, 0, 0, rfl⟩
    rw [hp] at H
    cases hv : vok l with
    | false =>
      rw [hv] at H
      clear h hB hp
      go_enter Tryz.func41, Tryz.ntmps41
      go_wp2_with fail
      refine H.mono ?_
      rintro e w1 ⟨rfl, hb1⟩
      have HB1 : Hid (Below w.heap.size w (w1.alloc (cell4 p0 p1 p2 p3))) := hb1.alloc hb1.size _
      clear hb1 H
      go_wp2
      go_ret2
      exact ⟨.slice none 0 0, by rw [HN.out.1]; rfl, by rw [HN.out.2]; exact OwnI.nil _ _, HB1.out⟩
    | true =>
      rw [hv] at H
      have hb : ¬ (0 ≤ d ∧ d ≤ 3 ∧ 0 ≤ v ∧ v ≤ 1) := fun h => by have := decB_iff.2 ⟨hv, h⟩; rw [hB] at this; cases this
      clear h hB hp
      by_cases d0 : 0 ≤ d ∧ d ≤ 3
      · have q0 : (decide ((0 : Int) ≤ d) && decide (d ≤ 3)) = true := by simp [d0.1, d0.2]
        have q1 : (decide ((0 : Int) ≤ v) && decide (v ≤ 1)) = false := by rw [Bool.and_eq_false_iff]; simp; omega
        clear hb d0
        go_enter Tryz.func41, Tryz.ntmps41
        go_wp2_with fail
        refine H.mono ?_
        rintro e w1 ⟨rfl, hb1⟩
        have HB1 : Hid (Below w.heap.size w (w1.alloc (cell4 p0 p1 p2 p3))) := hb1.alloc hb1.size _
        clear hb1 H
        go_wp2_with fail
        refine (within_any _ _ _ _).mono ?_
        rintro e w2 ⟨rfl, hw⟩
        obtain rfl := hw.symm
        rw [q0]
        go_wp2_with fail
        refine (within_any _ _ _ _).mono ?_
        rintro e w2 ⟨rfl, hw⟩
        obtain rfl := hw.symm
        rw [q1]
        go_wp2
        go_ret2
        exact ⟨.slice none 0 0, by rw [HN.out.1]; rfl, by rw [HN.out.2]; exact OwnI.nil _ _, HB1.out⟩
      · have q0 : (decide ((0 : Int) ≤ d) && decide (d ≤ 3)) = false := by rw [Bool.and_eq_false_iff]; simp; omega
        clear hb d0
        go_enter Tryz.func41, Tryz.ntmps41
        go_wp2_with fail
        refine H.mono ?_
        rintro e w1 ⟨rfl, hb1⟩
        have HB1 : Hid (Below w.heap.size w (w1.alloc (cell4 p0 p1 p2 p3))) := hb1.alloc hb1.size _
        clear hb1 H
        go_wp2_with fail
        refine (within_any _ _ _ _).mono ?_
        rintro e w2 ⟨rfl, hw⟩
        obtain rfl := hw.symm
        rw [q0]
        go_wp2
        go_ret2
        exact ⟨.slice none 0 0, by rw [HN.out.1]; rfl, by rw [HN.out.2]; exact OwnI.nil _ _, HB1.out⟩
  | true =>
    obtain ⟨hv, h0, h1, h2, h3⟩ := decB_iff.1 hB
    obtain ⟨m, rfl⟩ : ∃ m : Nat, d = (m : Int) := ⟨d.toNat, by omega⟩
    have hm : m < 4 := by omega
    rw [hv] at H
    have HQ : Hid (decB l m v = true) := hB
    obtain ⟨a0, a1, a2, a3, rfl, _⟩ := vok_four hv
    rw [show vecOf [a0, a1, a2, a3] = vec a0 a1 a2 a3 by simp [vecOf, hv, intAt]] at H
    have q0 : (decide ((0 : Int) ≤ (m : Int)) && decide ((m : Int) ≤ 3)) = true := by simp; omega
    have q1 : (decide ((0 : Int) ≤ v) && decide (v ≤ 1)) = true := by simp [h2, h3]
    obtain ⟨c0, c1, c2, c3, hc, hD⟩ := decided_any a0 a1 a2 a3 v m hm
    have HR : Hid (decR [a0, a1, a2, a3] m v = [c0, c1, c2, c3]) := by show _ = _; simp only [decR, HQ.out, if_true, Int.toNat_natCast]; exact hc.symm
    have HF : Hid (decF [a0, a1, a2, a3] m v = decide (intAt [a0, a1, a2, a3] m = -1)) := by show _ = _; simp only [decF, HQ.out, Bool.true_and, Int.toNat_natCast]
    have HD : Hid (∀ w, Calls Tryz.prog 98 #[vec a0 a1 a2 a3, .int .i64 (m : Int), .int .i64 v] w fun e w' => e = .returned (.tuple #[vec c0 c1 c2 c3, .bool (decide (intAt [a0, a1, a2, a3] m = -1))]) ∧ Below w.heap.size w w') := hD
    have HM : Hid (∀ W, Calls Tryz.prog 92 #[vec c0 c1 c2 c3] W fun e w' => ∃ x, e = .returned x ∧ OwnI W.heap.size w' x [c0, c1, c2, c3] ∧ Below W.heap.size W w') := fun W => numbers_any c0 c1 c2 c3 W
    generalize decide (intAt [a0, a1, a2, a3] m = -1) = bb at HF HD
    clear hc hD hv hB h h0 h1 h2 h3 HQ
    go_enter Tryz.func41, Tryz.ntmps41
    go_wp2_with fail
    refine H.mono ?_
    rintro e w1 ⟨rfl, hb1⟩
    have HB1 : Hid (Below w.heap.size w (w1.alloc (cell4 a0 a1 a2 a3))) := hb1.alloc hb1.size _
    clear hb1 H
    go_wp2_with fail
    refine (within_any _ _ _ _).mono ?_
    rintro e w2 ⟨rfl, hw⟩
    obtain rfl := hw.symm
    rw [q0]
    go_wp2_with fail
    refine (within_any _ _ _ _).mono ?_
    rintro e w2 ⟨rfl, hw⟩
    obtain rfl := hw.symm
    rw [q1]
    go_wp2_with fail
    refine (HD.out _).mono ?_
    rintro e w3 ⟨rfl, hb3⟩
    have HB3 : Hid (Below w.heap.size w (w3.alloc (cell4 c0 c1 c2 c3))) := (HB1.out.trans (hb3.mono HB1.out.size)).alloc (Nat.le_trans HB1.out.size hb3.size) _
    have hz3 := HB3.out.size
    clear hb3
    go_wp2_with fail
    refine (HM.out _).mono ?_
    rintro e w4 ⟨u, rfl, ho, hb4⟩
    have HB4 : Hid (Below w.heap.size w w4) := HB3.out.trans (hb4.mono HB3.out.size)
    have HO : Hid (OwnI w.heap.size w4 u [c0, c1, c2, c3]) := ho.mono HB3.out.size
    clear ho hb4
    go_wp2
    go_ret2
    exact ⟨u, by rw [HF.out]; rfl, by rw [HR.out]; exact HO.out, HB4.out⟩
end Go.Proofs.YtmpoffepoafblaaGreat

/- Vectors: the program's vectorsOf, Meets, Refines. -/
namespace Go.Proofs.YtmpoffepoafblaaGreat
open Go.RowKit
theorem vecOf_form (l : List Int) : ∃ a b c d : Int, vecOf l = vec a b c d := by
  unfold vecOf; split
  · exact ⟨_, _, _, _, rfl⟩
  · exact ⟨0, 0, 0, 0, rfl⟩
theorem vecOf_four (a b c d : Int) (h : vok [a, b, c, d] = true) : vecOf [a, b, c, d] = vec a b c d := by simp [vecOf, h, intAt]
set_option maxHeartbeats 4000000 in
theorem two_any (x y : Value) (l r : List Int) (w : World) (hl : l.length ≤ 4611686018427387904) (hr : r.length ≤ 4611686018427387904) (h : IsI w x l) (k : IsI w y r) :
    Calls Tryz.prog 93 #[x, y] w fun e w' => e = .returned (.tuple #[vecOf l, vecOf r, .bool (vok l && vok r)]) ∧ Below w.heap.size w w' := by
  obtain ⟨p0, p1, p2, p3, hp⟩ := vecOf_form l
  obtain ⟨q0, q1, q2, q3, hq⟩ := vecOf_form r
  have H : Hid (∀ w', Below w.heap.size w w' → Calls Tryz.prog 66 #[x] w' fun e w'' => e = .returned (.tuple #[vec p0 p1 p2 p3, .bool (vok l)]) ∧ Below w'.heap.size w' w'') := fun w' hb => hp ▸ of_any x l w' hl (h.below hb)
  have K : Hid (∀ w', Below w.heap.size w w' → Calls Tryz.prog 66 #[y] w' fun e w'' => e = .returned (.tuple #[vec q0 q1 q2 q3, .bool (vok r)]) ∧ Below w'.heap.size w' w'') := fun w' hb => hq ▸ of_any y r w' hr (k.below hb)
  rw [hp, hq]
  generalize vok l = b at H ⊢
  generalize vok r = d at K ⊢
  clear hp hq h k hl hr
  have hB0 : Below w.heap.size w ((w.alloc (cell4 0 0 0 0)).alloc (cell4 0 0 0 0)) := ((Below.refl _ w).alloc (Nat.le_refl _) _).alloc (by simp) _
  have hV0 : V4 ((w.alloc (cell4 0 0 0 0)).alloc (cell4 0 0 0 0)) w.heap.size 0 0 0 0 := (V4.new w 0 0 0 0).alloc _
  have hV1 : V4 ((w.alloc (cell4 0 0 0 0)).alloc (cell4 0 0 0 0)) (w.heap.size + 1) 0 0 0 0 := by have := V4.new (w.alloc (cell4 0 0 0 0)) 0 0 0 0; rwa [show (w.alloc (cell4 0 0 0 0)).heap.size = w.heap.size + 1 by simp] at this
  have HB0 : Hid (Below w.heap.size w ((w.alloc (cell4 0 0 0 0)).alloc (cell4 0 0 0 0))) := hB0
  have HV0 : Hid (V4 ((w.alloc (cell4 0 0 0 0)).alloc (cell4 0 0 0 0)) w.heap.size 0 0 0 0) := hV0
  have HV1 : Hid (V4 ((w.alloc (cell4 0 0 0 0)).alloc (cell4 0 0 0 0)) (w.heap.size + 1) 0 0 0 0) := hV1
  clear hB0 hV0 hV1
  cases b <;> cases d
  · go_enter Tryz.func93, Tryz.ntmps93
    go_wp2_with fail
    refine (H.out _ HB0.out).mono ?_
    rintro e w1 ⟨rfl, hb1⟩
    have HB1 : Hid (Below w.heap.size w (w1.alloc (cell4 p0 p1 p2 p3))) := (HB0.out.trans (hb1.mono HB0.out.size)).alloc (by have := HB0.out.size; have := hb1.size; omega) _
    have HV2 : Hid (V4 (w1.alloc (cell4 p0 p1 p2 p3)) w.heap.size 0 0 0 0) := (HV0.out.keep hb1 HV0.out.lt).alloc _
    have HV3 : Hid (V4 (w1.alloc (cell4 p0 p1 p2 p3)) (w.heap.size + 1) 0 0 0 0) := (HV1.out.keep hb1 HV1.out.lt).alloc _
    have HV4 : Hid (V4 (w1.alloc (cell4 p0 p1 p2 p3)) w1.heap.size p0 p1 p2 p3) := V4.new _ _ _ _ _
    have hz1 : w.heap.size + 1 < w1.heap.size := Nat.lt_of_lt_of_le HV1.out.lt hb1.size
    clear hb1 HB0 HV0 HV1 H
    go_wp2_with fail
    refine (K.out _ HB1.out).mono ?_
    rintro e w2 ⟨rfl, hb2⟩
    have HB2 : Hid (Below w.heap.size w (w2.alloc (cell4 q0 q1 q2 q3))) := (HB1.out.trans (hb2.mono HB1.out.size)).alloc (by have := HB1.out.size; have := hb2.size; omega) _
    have hV5 := (HV2.out.keep hb2 HV2.out.lt).alloc (cell4 q0 q1 q2 q3)
    have hV6 := (HV3.out.keep hb2 HV3.out.lt).alloc (cell4 q0 q1 q2 q3)
    have hV7 := (HV4.out.keep hb2 HV4.out.lt).alloc (cell4 q0 q1 q2 q3)
    have hV8 := V4.new w2 q0 q1 q2 q3
    have hz2 : w1.heap.size < w2.heap.size := Nat.lt_of_lt_of_le HV4.out.lt hb2.size
    clear hb2 HB1 HV2 HV3 HV4 K
    go_wp2_with fail
    generalize w2.alloc (cell4 q0 q1 q2 q3) = W at HB2 hV5 hV6 hV7 hV8 ⊢
    have HV5 : Hid (V4 W w.heap.size 0 0 0 0) := hV5
    have HV6 : Hid (V4 W (w.heap.size + 1) 0 0 0 0) := hV6
    obtain ⟨f0, f1, f2, f3, fz⟩ := hV5.cells
    obtain ⟨g0, g1, g2, g3, gz⟩ := hV6.cells
    obtain ⟨h0, h1, h2, h3, _⟩ := hV7.cells
    obtain ⟨k0, k1, k2, k3, _⟩ := hV8.cells
    clear hV5 hV6 hV7 hV8
    go_big_region
    clear f0 f1 f2 f3 fz g0 g1 g2 g3 gz h0 h1 h2 h3 k0 k1 k2 k3
    have hW : ∀ X : World, X = put4 (put4 W w.heap.size p0 p1 p2 p3) (w.heap.size + 1) q0 q1 q2 q3 → V4 X w.heap.size p0 p1 p2 p3 ∧ V4 X (w.heap.size + 1) q0 q1 q2 q3 ∧ Below w.heap.size w X := fun X h => by
      rw [h]
      exact ⟨(HV5.out.put p0 p1 p2 p3).other (by omega) _ _ _ _, (HV6.out.other (by omega) _ _ _ _).put _ _ _ _, put4_below (put4_below HB2.out (Nat.le_refl _) _ _ _ _) (by omega) _ _ _ _⟩
    generalize hG : (((((((W.setCell ⟨w.heap.size, 0, none⟩ (.int .i64 p0)).setCell ⟨w.heap.size, 1, none⟩ (.int .i64 p1)).setCell ⟨w.heap.size, 2, none⟩ (.int .i64 p2)).setCell ⟨w.heap.size, 3, none⟩ (.int .i64 p3)).setCell ⟨w.heap.size + 1, 0, none⟩ (.int .i64 q0)).setCell ⟨w.heap.size + 1, 1, none⟩ (.int .i64 q1)).setCell ⟨w.heap.size + 1, 2, none⟩ (.int .i64 q2)).setCell ⟨w.heap.size + 1, 3, none⟩ (.int .i64 q3) = X
    obtain ⟨hX, hY, hB⟩ := hW X hG.symm
    obtain ⟨f0, f1, f2, f3, fz⟩ := hX.cells
    obtain ⟨g0, g1, g2, g3, gz⟩ := hY.cells
    clear hW hG hX hY
    go_wp2
    exact bodyPost_ret (v := .tuple #[vec p0 p1 p2 p3, vec q0 q1 q2 q3, .bool false]) (by simp [results, Tryz.results93, go_sem, f0, f1, f2, f3, g0, g1, g2, g3]) rfl ⟨rfl, hB.drew⟩
  · go_enter Tryz.func93, Tryz.ntmps93
    go_wp2_with fail
    refine (H.out _ HB0.out).mono ?_
    rintro e w1 ⟨rfl, hb1⟩
    have HB1 : Hid (Below w.heap.size w (w1.alloc (cell4 p0 p1 p2 p3))) := (HB0.out.trans (hb1.mono HB0.out.size)).alloc (by have := HB0.out.size; have := hb1.size; omega) _
    have HV2 : Hid (V4 (w1.alloc (cell4 p0 p1 p2 p3)) w.heap.size 0 0 0 0) := (HV0.out.keep hb1 HV0.out.lt).alloc _
    have HV3 : Hid (V4 (w1.alloc (cell4 p0 p1 p2 p3)) (w.heap.size + 1) 0 0 0 0) := (HV1.out.keep hb1 HV1.out.lt).alloc _
    have HV4 : Hid (V4 (w1.alloc (cell4 p0 p1 p2 p3)) w1.heap.size p0 p1 p2 p3) := V4.new _ _ _ _ _
    have hz1 : w.heap.size + 1 < w1.heap.size := Nat.lt_of_lt_of_le HV1.out.lt hb1.size
    clear hb1 HB0 HV0 HV1 H
    go_wp2_with fail
    refine (K.out _ HB1.out).mono ?_
    rintro e w2 ⟨rfl, hb2⟩
    have HB2 : Hid (Below w.heap.size w (w2.alloc (cell4 q0 q1 q2 q3))) := (HB1.out.trans (hb2.mono HB1.out.size)).alloc (by have := HB1.out.size; have := hb2.size; omega) _
    have hV5 := (HV2.out.keep hb2 HV2.out.lt).alloc (cell4 q0 q1 q2 q3)
    have hV6 := (HV3.out.keep hb2 HV3.out.lt).alloc (cell4 q0 q1 q2 q3)
    have hV7 := (HV4.out.keep hb2 HV4.out.lt).alloc (cell4 q0 q1 q2 q3)
    have hV8 := V4.new w2 q0 q1 q2 q3
    have hz2 : w1.heap.size < w2.heap.size := Nat.lt_of_lt_of_le HV4.out.lt hb2.size
    clear hb2 HB1 HV2 HV3 HV4 K
    go_wp2_with fail
    generalize w2.alloc (cell4 q0 q1 q2 q3) = W at HB2 hV5 hV6 hV7 hV8 ⊢
    have HV5 : Hid (V4 W w.heap.size 0 0 0 0) := hV5
    have HV6 : Hid (V4 W (w.heap.size + 1) 0 0 0 0) := hV6
    obtain ⟨f0, f1, f2, f3, fz⟩ := hV5.cells
    obtain ⟨g0, g1, g2, g3, gz⟩ := hV6.cells
    obtain ⟨h0, h1, h2, h3, _⟩ := hV7.cells
    obtain ⟨k0, k1, k2, k3, _⟩ := hV8.cells
    clear hV5 hV6 hV7 hV8
    go_big_region
    clear f0 f1 f2 f3 fz g0 g1 g2 g3 gz h0 h1 h2 h3 k0 k1 k2 k3
    have hW : ∀ X : World, X = put4 (put4 W w.heap.size p0 p1 p2 p3) (w.heap.size + 1) q0 q1 q2 q3 → V4 X w.heap.size p0 p1 p2 p3 ∧ V4 X (w.heap.size + 1) q0 q1 q2 q3 ∧ Below w.heap.size w X := fun X h => by
      rw [h]
      exact ⟨(HV5.out.put p0 p1 p2 p3).other (by omega) _ _ _ _, (HV6.out.other (by omega) _ _ _ _).put _ _ _ _, put4_below (put4_below HB2.out (Nat.le_refl _) _ _ _ _) (by omega) _ _ _ _⟩
    generalize hG : (((((((W.setCell ⟨w.heap.size, 0, none⟩ (.int .i64 p0)).setCell ⟨w.heap.size, 1, none⟩ (.int .i64 p1)).setCell ⟨w.heap.size, 2, none⟩ (.int .i64 p2)).setCell ⟨w.heap.size, 3, none⟩ (.int .i64 p3)).setCell ⟨w.heap.size + 1, 0, none⟩ (.int .i64 q0)).setCell ⟨w.heap.size + 1, 1, none⟩ (.int .i64 q1)).setCell ⟨w.heap.size + 1, 2, none⟩ (.int .i64 q2)).setCell ⟨w.heap.size + 1, 3, none⟩ (.int .i64 q3) = X
    obtain ⟨hX, hY, hB⟩ := hW X hG.symm
    obtain ⟨f0, f1, f2, f3, fz⟩ := hX.cells
    obtain ⟨g0, g1, g2, g3, gz⟩ := hY.cells
    clear hW hG hX hY
    go_wp2
    exact bodyPost_ret (v := .tuple #[vec p0 p1 p2 p3, vec q0 q1 q2 q3, .bool false]) (by simp [results, Tryz.results93, go_sem, f0, f1, f2, f3, g0, g1, g2, g3]) rfl ⟨rfl, hB.drew⟩
  · go_enter Tryz.func93, Tryz.ntmps93
    go_wp2_with fail
    refine (H.out _ HB0.out).mono ?_
    rintro e w1 ⟨rfl, hb1⟩
    have HB1 : Hid (Below w.heap.size w (w1.alloc (cell4 p0 p1 p2 p3))) := (HB0.out.trans (hb1.mono HB0.out.size)).alloc (by have := HB0.out.size; have := hb1.size; omega) _
    have HV2 : Hid (V4 (w1.alloc (cell4 p0 p1 p2 p3)) w.heap.size 0 0 0 0) := (HV0.out.keep hb1 HV0.out.lt).alloc _
    have HV3 : Hid (V4 (w1.alloc (cell4 p0 p1 p2 p3)) (w.heap.size + 1) 0 0 0 0) := (HV1.out.keep hb1 HV1.out.lt).alloc _
    have HV4 : Hid (V4 (w1.alloc (cell4 p0 p1 p2 p3)) w1.heap.size p0 p1 p2 p3) := V4.new _ _ _ _ _
    have hz1 : w.heap.size + 1 < w1.heap.size := Nat.lt_of_lt_of_le HV1.out.lt hb1.size
    clear hb1 HB0 HV0 HV1 H
    go_wp2_with fail
    refine (K.out _ HB1.out).mono ?_
    rintro e w2 ⟨rfl, hb2⟩
    have HB2 : Hid (Below w.heap.size w (w2.alloc (cell4 q0 q1 q2 q3))) := (HB1.out.trans (hb2.mono HB1.out.size)).alloc (by have := HB1.out.size; have := hb2.size; omega) _
    have hV5 := (HV2.out.keep hb2 HV2.out.lt).alloc (cell4 q0 q1 q2 q3)
    have hV6 := (HV3.out.keep hb2 HV3.out.lt).alloc (cell4 q0 q1 q2 q3)
    have hV7 := (HV4.out.keep hb2 HV4.out.lt).alloc (cell4 q0 q1 q2 q3)
    have hV8 := V4.new w2 q0 q1 q2 q3
    have hz2 : w1.heap.size < w2.heap.size := Nat.lt_of_lt_of_le HV4.out.lt hb2.size
    clear hb2 HB1 HV2 HV3 HV4 K
    go_wp2_with fail
    generalize w2.alloc (cell4 q0 q1 q2 q3) = W at HB2 hV5 hV6 hV7 hV8 ⊢
    have HV5 : Hid (V4 W w.heap.size 0 0 0 0) := hV5
    have HV6 : Hid (V4 W (w.heap.size + 1) 0 0 0 0) := hV6
    obtain ⟨f0, f1, f2, f3, fz⟩ := hV5.cells
    obtain ⟨g0, g1, g2, g3, gz⟩ := hV6.cells
    obtain ⟨h0, h1, h2, h3, _⟩ := hV7.cells
    obtain ⟨k0, k1, k2, k3, _⟩ := hV8.cells
    clear hV5 hV6 hV7 hV8
    go_big_region
    clear f0 f1 f2 f3 fz g0 g1 g2 g3 gz h0 h1 h2 h3 k0 k1 k2 k3
    have hW : ∀ X : World, X = put4 (put4 W w.heap.size p0 p1 p2 p3) (w.heap.size + 1) q0 q1 q2 q3 → V4 X w.heap.size p0 p1 p2 p3 ∧ V4 X (w.heap.size + 1) q0 q1 q2 q3 ∧ Below w.heap.size w X := fun X h => by
      rw [h]
      exact ⟨(HV5.out.put p0 p1 p2 p3).other (by omega) _ _ _ _, (HV6.out.other (by omega) _ _ _ _).put _ _ _ _, put4_below (put4_below HB2.out (Nat.le_refl _) _ _ _ _) (by omega) _ _ _ _⟩
    generalize hG : (((((((W.setCell ⟨w.heap.size, 0, none⟩ (.int .i64 p0)).setCell ⟨w.heap.size, 1, none⟩ (.int .i64 p1)).setCell ⟨w.heap.size, 2, none⟩ (.int .i64 p2)).setCell ⟨w.heap.size, 3, none⟩ (.int .i64 p3)).setCell ⟨w.heap.size + 1, 0, none⟩ (.int .i64 q0)).setCell ⟨w.heap.size + 1, 1, none⟩ (.int .i64 q1)).setCell ⟨w.heap.size + 1, 2, none⟩ (.int .i64 q2)).setCell ⟨w.heap.size + 1, 3, none⟩ (.int .i64 q3) = X
    obtain ⟨hX, hY, hB⟩ := hW X hG.symm
    obtain ⟨f0, f1, f2, f3, fz⟩ := hX.cells
    obtain ⟨g0, g1, g2, g3, gz⟩ := hY.cells
    clear hW hG hX hY
    go_wp2
    exact bodyPost_ret (v := .tuple #[vec p0 p1 p2 p3, vec q0 q1 q2 q3, .bool false]) (by simp [results, Tryz.results93, go_sem, f0, f1, f2, f3, g0, g1, g2, g3]) rfl ⟨rfl, hB.drew⟩
  · go_enter Tryz.func93, Tryz.ntmps93
    go_wp2_with fail
    refine (H.out _ HB0.out).mono ?_
    rintro e w1 ⟨rfl, hb1⟩
    have HB1 : Hid (Below w.heap.size w (w1.alloc (cell4 p0 p1 p2 p3))) := (HB0.out.trans (hb1.mono HB0.out.size)).alloc (by have := HB0.out.size; have := hb1.size; omega) _
    have HV2 : Hid (V4 (w1.alloc (cell4 p0 p1 p2 p3)) w.heap.size 0 0 0 0) := (HV0.out.keep hb1 HV0.out.lt).alloc _
    have HV3 : Hid (V4 (w1.alloc (cell4 p0 p1 p2 p3)) (w.heap.size + 1) 0 0 0 0) := (HV1.out.keep hb1 HV1.out.lt).alloc _
    have HV4 : Hid (V4 (w1.alloc (cell4 p0 p1 p2 p3)) w1.heap.size p0 p1 p2 p3) := V4.new _ _ _ _ _
    have hz1 : w.heap.size + 1 < w1.heap.size := Nat.lt_of_lt_of_le HV1.out.lt hb1.size
    clear hb1 HB0 HV0 HV1 H
    go_wp2_with fail
    refine (K.out _ HB1.out).mono ?_
    rintro e w2 ⟨rfl, hb2⟩
    have HB2 : Hid (Below w.heap.size w (w2.alloc (cell4 q0 q1 q2 q3))) := (HB1.out.trans (hb2.mono HB1.out.size)).alloc (by have := HB1.out.size; have := hb2.size; omega) _
    have hV5 := (HV2.out.keep hb2 HV2.out.lt).alloc (cell4 q0 q1 q2 q3)
    have hV6 := (HV3.out.keep hb2 HV3.out.lt).alloc (cell4 q0 q1 q2 q3)
    have hV7 := (HV4.out.keep hb2 HV4.out.lt).alloc (cell4 q0 q1 q2 q3)
    have hV8 := V4.new w2 q0 q1 q2 q3
    have hz2 : w1.heap.size < w2.heap.size := Nat.lt_of_lt_of_le HV4.out.lt hb2.size
    clear hb2 HB1 HV2 HV3 HV4 K
    go_wp2_with fail
    generalize w2.alloc (cell4 q0 q1 q2 q3) = W at HB2 hV5 hV6 hV7 hV8 ⊢
    have HV5 : Hid (V4 W w.heap.size 0 0 0 0) := hV5
    have HV6 : Hid (V4 W (w.heap.size + 1) 0 0 0 0) := hV6
    obtain ⟨f0, f1, f2, f3, fz⟩ := hV5.cells
    obtain ⟨g0, g1, g2, g3, gz⟩ := hV6.cells
    obtain ⟨h0, h1, h2, h3, _⟩ := hV7.cells
    obtain ⟨k0, k1, k2, k3, _⟩ := hV8.cells
    clear hV5 hV6 hV7 hV8
    go_big_region
    clear f0 f1 f2 f3 fz g0 g1 g2 g3 gz h0 h1 h2 h3 k0 k1 k2 k3
    have hW : ∀ X : World, X = put4 (put4 W w.heap.size p0 p1 p2 p3) (w.heap.size + 1) q0 q1 q2 q3 → V4 X w.heap.size p0 p1 p2 p3 ∧ V4 X (w.heap.size + 1) q0 q1 q2 q3 ∧ Below w.heap.size w X := fun X h => by
      rw [h]
      exact ⟨(HV5.out.put p0 p1 p2 p3).other (by omega) _ _ _ _, (HV6.out.other (by omega) _ _ _ _).put _ _ _ _, put4_below (put4_below HB2.out (Nat.le_refl _) _ _ _ _) (by omega) _ _ _ _⟩
    generalize hG : (((((((W.setCell ⟨w.heap.size, 0, none⟩ (.int .i64 p0)).setCell ⟨w.heap.size, 1, none⟩ (.int .i64 p1)).setCell ⟨w.heap.size, 2, none⟩ (.int .i64 p2)).setCell ⟨w.heap.size, 3, none⟩ (.int .i64 p3)).setCell ⟨w.heap.size + 1, 0, none⟩ (.int .i64 q0)).setCell ⟨w.heap.size + 1, 1, none⟩ (.int .i64 q1)).setCell ⟨w.heap.size + 1, 2, none⟩ (.int .i64 q2)).setCell ⟨w.heap.size + 1, 3, none⟩ (.int .i64 q3) = X
    obtain ⟨hX, hY, hB⟩ := hW X hG.symm
    obtain ⟨f0, f1, f2, f3, fz⟩ := hX.cells
    obtain ⟨g0, g1, g2, g3, gz⟩ := hY.cells
    clear hW hG hX hY
    go_wp2
    exact bodyPost_ret (v := .tuple #[vec p0 p1 p2 p3, vec q0 q1 q2 q3, .bool true]) (by simp [results, Tryz.results93, go_sem, f0, f1, f2, f3, g0, g1, g2, g3]) rfl ⟨rfl, hB.drew⟩

theorem vok_len {l : List Int} (h : vok l = true) : l.length = 4 := by
  simp only [vok, Bool.and_eq_true, decide_eq_true_eq] at h; exact h.2
end Go.Proofs.YtmpoffepoafblaaGreat

/- Vectors: the program's Meets and Refines. -/
namespace Go.Proofs.YtmpoffepoafblaaGreat
open Go.RowKit
/- One of both is none: the program's Meets and Refines say no; else they go by the four numbers. -/
set_option maxHeartbeats 1000000 in
theorem iMeets_any (x y : Value) (l r : List Int) (w : World) (hl : l.length ≤ 4611686018427387904) (hr : r.length ≤ 4611686018427387904) (h : IsI w x l) (k : IsI w y r) :
    Calls Tryz.prog 36 #[x, y] w fun e w' => e = .returned (.bool (vok l && vok r && meetB l r)) ∧ Below w.heap.size w w' := by
  have H := two_any x y l r w hl hr h k
  cases hv : (vok l && vok r) with
  | false =>
    rw [hv] at H
    obtain ⟨p0, p1, p2, p3, hp⟩ := vecOf_form l
    obtain ⟨q0, q1, q2, q3, hq⟩ := vecOf_form r
    rw [hp, hq] at H
    clear hp hq
    go_enter Tryz.func36, Tryz.ntmps36
    go_wp2_with fail
    refine H.mono ?_
    rintro e w1 ⟨rfl, hb1⟩
    go_wp2
    go_ret
    exact ⟨rfl, (hb1.alloc hb1.size _).alloc (by have := hb1.size; simp; omega) _⟩
  | true =>
    rw [hv] at H
    rw [Bool.and_eq_true] at hv
    obtain ⟨a0, a1, a2, a3, rfl, _⟩ := vok_four hv.1
    obtain ⟨b0, b1, b2, b3, rfl, _⟩ := vok_four hv.2
    rw [vecOf_four _ _ _ _ hv.1, vecOf_four _ _ _ _ hv.2] at H
    have M := fun W => meets_any a0 a1 a2 a3 b0 b1 b2 b3 W
    generalize meetB [a0, a1, a2, a3] [b0, b1, b2, b3] = m at M ⊢
    have M' : Hid (∀ W, _) := M
    clear M
    go_enter Tryz.func36, Tryz.ntmps36
    go_wp2_with fail
    refine H.mono ?_
    rintro e w1 ⟨rfl, hb1⟩
    go_wp2_with fail
    refine (M'.out _).mono ?_
    rintro e w2 ⟨rfl, hb2⟩
    go_wp2
    go_ret
    exact ⟨rfl, ((hb1.alloc hb1.size _).alloc (by have := hb1.size; simp; omega) _).trans (hb2.mono (by have := hb1.size; simp; omega))⟩

set_option maxHeartbeats 1000000 in
theorem iRefines_any (x y : Value) (l r : List Int) (w : World) (hl : l.length ≤ 4611686018427387904) (hr : r.length ≤ 4611686018427387904) (h : IsI w x l) (k : IsI w y r) :
    Calls Tryz.prog 37 #[x, y] w fun e w' => e = .returned (.bool (vok l && vok r && refB l r)) ∧ Below w.heap.size w w' := by
  have H := two_any x y l r w hl hr h k
  cases hv : (vok l && vok r) with
  | false =>
    rw [hv] at H
    obtain ⟨p0, p1, p2, p3, hp⟩ := vecOf_form l
    obtain ⟨q0, q1, q2, q3, hq⟩ := vecOf_form r
    rw [hp, hq] at H
    clear hp hq
    go_enter Tryz.func37, Tryz.ntmps37
    go_wp2_with fail
    refine H.mono ?_
    rintro e w1 ⟨rfl, hb1⟩
    go_wp2
    go_ret
    exact ⟨rfl, (hb1.alloc hb1.size _).alloc (by have := hb1.size; simp; omega) _⟩
  | true =>
    rw [hv] at H
    rw [Bool.and_eq_true] at hv
    obtain ⟨a0, a1, a2, a3, rfl, _⟩ := vok_four hv.1
    obtain ⟨b0, b1, b2, b3, rfl, _⟩ := vok_four hv.2
    rw [vecOf_four _ _ _ _ hv.1, vecOf_four _ _ _ _ hv.2] at H
    have M := fun W => refines_any a0 a1 a2 a3 b0 b1 b2 b3 W
    generalize refB [a0, a1, a2, a3] [b0, b1, b2, b3] = m at M ⊢
    have M' : Hid (∀ W, _) := M
    clear M
    go_enter Tryz.func37, Tryz.ntmps37
    go_wp2_with fail
    refine H.mono ?_
    rintro e w1 ⟨rfl, hb1⟩
    go_wp2_with fail
    refine (M'.out _).mono ?_
    rintro e w2 ⟨rfl, hb2⟩
    go_wp2
    go_ret
    exact ⟨rfl, ((hb1.alloc hb1.size _).alloc (by have := hb1.size; simp; omega) _).trans (hb2.mono (by have := hb1.size; simp; omega))⟩
end Go.Proofs.YtmpoffepoafblaaGreat

