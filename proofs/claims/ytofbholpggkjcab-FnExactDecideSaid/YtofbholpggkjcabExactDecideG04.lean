/- VDecI, VOpen -/
import Derived.Test.YtofbholpggkjcabExactDecideLVDecS
import Derived.Test.YtofbholpggkjcabExactDecideG00
import Derived.ProofKit
import Derived.ChangeOld
import Derived.OpenShut
import Derived.SizedLaws
/- Vectors: the program's Decide. -/
namespace Go.Proofs.Ytofbholpggkjcab
open Go.RowKit

set_option maxHeartbeats 1000000 in
theorem decidedNo0 (a0 a1 a2 a3 v : Int) (w : World) (h : (a0 != (-1 : Int)) = true) :
    Calls Try.prog 24 #[vec a0 a1 a2 a3, .int .i64 0, .int .i64 v] w fun e w' => e = .returned (.tuple #[vec a0 a1 a2 a3, .bool false]) ∧ Below w.heap.size w w' := by
  go_enter Try.func24, Try.ntmps24
  go_wp2
  exact bodyPost_ret (v := .tuple #[vec a0 a1 a2 a3, .bool false]) (by simp [results, Try.results24, go_sem]) rfl ⟨rfl, ((Below.refl _ w).alloc (Nat.le_refl _) _).alloc (by simp) _⟩
set_option maxHeartbeats 1000000 in
theorem decidedYes0 (a0 a1 a2 a3 v : Int) (w : World) (h : (a0 != (-1 : Int)) = false) :
    Calls Try.prog 24 #[vec a0 a1 a2 a3, .int .i64 0, .int .i64 v] w fun e w' => e = .returned (.tuple #[vec v a1 a2 a3, .bool true]) ∧ Below w.heap.size w w' := by
  go_enter Try.func24, Try.ntmps24
  go_wp2
  exact bodyPost_ret (v := .tuple #[vec v a1 a2 a3, .bool true]) (by simp [results, Try.results24, go_sem]) rfl ⟨rfl, ((Below.refl _ w).alloc (Nat.le_refl _) _).alloc (by simp) _⟩

set_option maxHeartbeats 1000000 in
theorem decidedNo1 (a0 a1 a2 a3 v : Int) (w : World) (h : (a1 != (-1 : Int)) = true) :
    Calls Try.prog 24 #[vec a0 a1 a2 a3, .int .i64 1, .int .i64 v] w fun e w' => e = .returned (.tuple #[vec a0 a1 a2 a3, .bool false]) ∧ Below w.heap.size w w' := by
  go_enter Try.func24, Try.ntmps24
  go_wp2
  exact bodyPost_ret (v := .tuple #[vec a0 a1 a2 a3, .bool false]) (by simp [results, Try.results24, go_sem]) rfl ⟨rfl, ((Below.refl _ w).alloc (Nat.le_refl _) _).alloc (by simp) _⟩
set_option maxHeartbeats 1000000 in
theorem decidedYes1 (a0 a1 a2 a3 v : Int) (w : World) (h : (a1 != (-1 : Int)) = false) :
    Calls Try.prog 24 #[vec a0 a1 a2 a3, .int .i64 1, .int .i64 v] w fun e w' => e = .returned (.tuple #[vec a0 v a2 a3, .bool true]) ∧ Below w.heap.size w w' := by
  go_enter Try.func24, Try.ntmps24
  go_wp2
  exact bodyPost_ret (v := .tuple #[vec a0 v a2 a3, .bool true]) (by simp [results, Try.results24, go_sem]) rfl ⟨rfl, ((Below.refl _ w).alloc (Nat.le_refl _) _).alloc (by simp) _⟩

set_option maxHeartbeats 1000000 in
theorem decidedNo2 (a0 a1 a2 a3 v : Int) (w : World) (h : (a2 != (-1 : Int)) = true) :
    Calls Try.prog 24 #[vec a0 a1 a2 a3, .int .i64 2, .int .i64 v] w fun e w' => e = .returned (.tuple #[vec a0 a1 a2 a3, .bool false]) ∧ Below w.heap.size w w' := by
  go_enter Try.func24, Try.ntmps24
  go_wp2
  exact bodyPost_ret (v := .tuple #[vec a0 a1 a2 a3, .bool false]) (by simp [results, Try.results24, go_sem]) rfl ⟨rfl, ((Below.refl _ w).alloc (Nat.le_refl _) _).alloc (by simp) _⟩
set_option maxHeartbeats 1000000 in
theorem decidedYes2 (a0 a1 a2 a3 v : Int) (w : World) (h : (a2 != (-1 : Int)) = false) :
    Calls Try.prog 24 #[vec a0 a1 a2 a3, .int .i64 2, .int .i64 v] w fun e w' => e = .returned (.tuple #[vec a0 a1 v a3, .bool true]) ∧ Below w.heap.size w w' := by
  go_enter Try.func24, Try.ntmps24
  go_wp2
  exact bodyPost_ret (v := .tuple #[vec a0 a1 v a3, .bool true]) (by simp [results, Try.results24, go_sem]) rfl ⟨rfl, ((Below.refl _ w).alloc (Nat.le_refl _) _).alloc (by simp) _⟩

set_option maxHeartbeats 1000000 in
theorem decidedNo3 (a0 a1 a2 a3 v : Int) (w : World) (h : (a3 != (-1 : Int)) = true) :
    Calls Try.prog 24 #[vec a0 a1 a2 a3, .int .i64 3, .int .i64 v] w fun e w' => e = .returned (.tuple #[vec a0 a1 a2 a3, .bool false]) ∧ Below w.heap.size w w' := by
  go_enter Try.func24, Try.ntmps24
  go_wp2
  exact bodyPost_ret (v := .tuple #[vec a0 a1 a2 a3, .bool false]) (by simp [results, Try.results24, go_sem]) rfl ⟨rfl, ((Below.refl _ w).alloc (Nat.le_refl _) _).alloc (by simp) _⟩
set_option maxHeartbeats 1000000 in
theorem decidedYes3 (a0 a1 a2 a3 v : Int) (w : World) (h : (a3 != (-1 : Int)) = false) :
    Calls Try.prog 24 #[vec a0 a1 a2 a3, .int .i64 3, .int .i64 v] w fun e w' => e = .returned (.tuple #[vec a0 a1 a2 v, .bool true]) ∧ Below w.heap.size w w' := by
  go_enter Try.func24, Try.ntmps24
  go_wp2
  exact bodyPost_ret (v := .tuple #[vec a0 a1 a2 v, .bool true]) (by simp [results, Try.results24, go_sem]) rfl ⟨rfl, ((Below.refl _ w).alloc (Nat.le_refl _) _).alloc (by simp) _⟩

/- What decided hands back: a list of four and a flag. -/
theorem decided_any (a0 a1 a2 a3 v : Int) (m : Nat) (hm : m < 4) : ∃ c0 c1 c2 c3 : Int, ([c0, c1, c2, c3] = if intAt [a0, a1, a2, a3] m = -1 then [a0, a1, a2, a3].set m v else [a0, a1, a2, a3]) ∧
    ∀ w, Calls Try.prog 24 #[vec a0 a1 a2 a3, .int .i64 (m : Int), .int .i64 v] w fun e w' => e = .returned (.tuple #[vec c0 c1 c2 c3, .bool (decide (intAt [a0, a1, a2, a3] m = -1))]) ∧ Below w.heap.size w w' := by
  have hm4 : m = 0 ∨ m = 1 ∨ m = 2 ∨ m = 3 := by omega
  rcases hm4 with rfl | rfl | rfl | rfl
  · by_cases h : a0 = -1
    · refine ⟨v, a1, a2, a3, by simp [intAt, h], fun w => (decidedYes0 a0 a1 a2 a3 v w (by simp [h])).mono fun e w' ⟨x, y⟩ => ⟨x.trans (by simp [intAt, h]), y⟩⟩
    · refine ⟨a0, a1, a2, a3, by simp [intAt, h], fun w => (decidedNo0 a0 a1 a2 a3 v w (by simp [h])).mono fun e w' ⟨x, y⟩ => ⟨x.trans (by simp [intAt, h]), y⟩⟩
  · by_cases h : a1 = -1
    · refine ⟨a0, v, a2, a3, by simp [intAt, h], fun w => (decidedYes1 a0 a1 a2 a3 v w (by simp [h])).mono fun e w' ⟨x, y⟩ => ⟨x.trans (by simp [intAt, h]), y⟩⟩
    · refine ⟨a0, a1, a2, a3, by simp [intAt, h], fun w => (decidedNo1 a0 a1 a2 a3 v w (by simp [h])).mono fun e w' ⟨x, y⟩ => ⟨x.trans (by simp [intAt, h]), y⟩⟩
  · by_cases h : a2 = -1
    · refine ⟨a0, a1, v, a3, by simp [intAt, h], fun w => (decidedYes2 a0 a1 a2 a3 v w (by simp [h])).mono fun e w' ⟨x, y⟩ => ⟨x.trans (by simp [intAt, h]), y⟩⟩
    · refine ⟨a0, a1, a2, a3, by simp [intAt, h], fun w => (decidedNo2 a0 a1 a2 a3 v w (by simp [h])).mono fun e w' ⟨x, y⟩ => ⟨x.trans (by simp [intAt, h]), y⟩⟩
  · by_cases h : a3 = -1
    · refine ⟨a0, a1, a2, v, by simp [intAt, h], fun w => (decidedYes3 a0 a1 a2 a3 v w (by simp [h])).mono fun e w' ⟨x, y⟩ => ⟨x.trans (by simp [intAt, h]), y⟩⟩
    · refine ⟨a0, a1, a2, a3, by simp [intAt, h], fun w => (decidedNo3 a0 a1 a2 a3 v w (by simp [h])).mono fun e w' ⟨x, y⟩ => ⟨x.trans (by simp [intAt, h]), y⟩⟩

set_option maxHeartbeats 2000000 in
theorem iDecide_any (x : Value) (d v : Int) (l : List Int) (w : World) (hl : l.length ≤ 1048576) (h : IsI w x l) :
    Calls Try.prog 11 #[x, .int .i64 d, .int .i64 v] w fun e w' => ∃ u, e = .returned (.tuple #[u, .bool (decF l d v)]) ∧ OwnI w.heap.size w' u (decR l d v) ∧ Below w.heap.size w w' := by
  have H := of_any x l w (by omega) h
  cases hB : decB l d v with
  | false =>
    have HN : Hid (decF l d v = false ∧ decR l d v = []) := dec_no hB
    obtain ⟨p0, p1, p2, p3, hp⟩ : ∃ a b c d : Int, vecOf l = vec a b c d := by
      unfold vecOf; split
      · exact ⟨_, _, _, _, rfl⟩
      · exact ⟨0, 0, 0, 0, rfl⟩
    rw [hp] at H
    cases hv : vok l with
    | false =>
      rw [hv] at H
      clear h hB hp
      go_enter Try.func11, Try.ntmps11
      go_wp2_with fail
      refine H.mono ?_
      rintro e w1 ⟨rfl, hb1⟩
      have HB1 : Hid (Below w.heap.size w (w1.alloc (cell4 p0 p1 p2 p3))) := hb1.alloc hb1.size _
      clear hb1 H
      go_wp2
      go_ret2
      exact ⟨.slice none 0 0, by rw [HN.out.1]; rfl, by rw [HN.out.2]; exact OwnI.nil _ _, HB1.out⟩
    | true =>
      rw [hv] at H
      have hb : ¬ (0 ≤ d ∧ d ≤ 3 ∧ 0 ≤ v ∧ v ≤ 1) := fun h => by have := decB_iff.2 ⟨hv, h⟩; rw [hB] at this; cases this
      clear h hB hp
      by_cases d0 : 0 ≤ d ∧ d ≤ 3
      · have q0 : (decide ((0 : Int) ≤ d) && decide (d ≤ 3)) = true := by simp [d0.1, d0.2]
        have q1 : (decide ((0 : Int) ≤ v) && decide (v ≤ 1)) = false := by rw [Bool.and_eq_false_iff]; simp; omega
        clear hb d0
        go_enter Try.func11, Try.ntmps11
        go_wp2_with fail
        refine H.mono ?_
        rintro e w1 ⟨rfl, hb1⟩
        have HB1 : Hid (Below w.heap.size w (w1.alloc (cell4 p0 p1 p2 p3))) := hb1.alloc hb1.size _
        clear hb1 H
        go_wp2_with fail
        refine (within_any _ _ _ _).mono ?_
        rintro e w2 ⟨rfl, hw⟩
        obtain rfl := hw.symm
        rw [q0]
        go_wp2_with fail
        refine (within_any _ _ _ _).mono ?_
        rintro e w2 ⟨rfl, hw⟩
        obtain rfl := hw.symm
        rw [q1]
        go_wp2
        go_ret2
        exact ⟨.slice none 0 0, by rw [HN.out.1]; rfl, by rw [HN.out.2]; exact OwnI.nil _ _, HB1.out⟩
      · have q0 : (decide ((0 : Int) ≤ d) && decide (d ≤ 3)) = false := by rw [Bool.and_eq_false_iff]; simp; omega
        clear hb d0
        go_enter Try.func11, Try.ntmps11
        go_wp2_with fail
        refine H.mono ?_
        rintro e w1 ⟨rfl, hb1⟩
        have HB1 : Hid (Below w.heap.size w (w1.alloc (cell4 p0 p1 p2 p3))) := hb1.alloc hb1.size _
        clear hb1 H
        go_wp2_with fail
        refine (within_any _ _ _ _).mono ?_
        rintro e w2 ⟨rfl, hw⟩
        obtain rfl := hw.symm
        rw [q0]
        go_wp2
        go_ret2
        exact ⟨.slice none 0 0, by rw [HN.out.1]; rfl, by rw [HN.out.2]; exact OwnI.nil _ _, HB1.out⟩
  | true =>
    obtain ⟨hv, h0, h1, h2, h3⟩ := decB_iff.1 hB
    obtain ⟨m, rfl⟩ : ∃ m : Nat, d = (m : Int) := ⟨d.toNat, by omega⟩
    have hm : m < 4 := by omega
    rw [hv] at H
    have HQ : Hid (decB l m v = true) := hB
    obtain ⟨a0, a1, a2, a3, rfl, _⟩ := vok_four hv
    rw [show vecOf [a0, a1, a2, a3] = vec a0 a1 a2 a3 by simp [vecOf, hv, intAt]] at H
    have q0 : (decide ((0 : Int) ≤ (m : Int)) && decide ((m : Int) ≤ 3)) = true := by simp; omega
    have q1 : (decide ((0 : Int) ≤ v) && decide (v ≤ 1)) = true := by simp [h2, h3]
    obtain ⟨c0, c1, c2, c3, hc, hD⟩ := decided_any a0 a1 a2 a3 v m hm
    have HR : Hid (decR [a0, a1, a2, a3] m v = [c0, c1, c2, c3]) := by show _ = _; simp only [decR, HQ.out, if_true, Int.toNat_natCast]; exact hc.symm
    have HF : Hid (decF [a0, a1, a2, a3] m v = decide (intAt [a0, a1, a2, a3] m = -1)) := by show _ = _; simp only [decF, HQ.out, Bool.true_and, Int.toNat_natCast]
    have HD : Hid (∀ w, Calls Try.prog 24 #[vec a0 a1 a2 a3, .int .i64 (m : Int), .int .i64 v] w fun e w' => e = .returned (.tuple #[vec c0 c1 c2 c3, .bool (decide (intAt [a0, a1, a2, a3] m = -1))]) ∧ Below w.heap.size w w') := hD
    have HM : Hid (∀ W, Calls Try.prog 25 #[vec c0 c1 c2 c3] W fun e w' => ∃ x, e = .returned x ∧ OwnI W.heap.size w' x [c0, c1, c2, c3] ∧ Below W.heap.size W w') := fun W => numbers_any c0 c1 c2 c3 W
    generalize decide (intAt [a0, a1, a2, a3] m = -1) = bb at HF HD
    clear hc hD hv hB h h0 h1 h2 h3 HQ
    go_enter Try.func11, Try.ntmps11
    go_wp2_with fail
    refine H.mono ?_
    rintro e w1 ⟨rfl, hb1⟩
    have HB1 : Hid (Below w.heap.size w (w1.alloc (cell4 a0 a1 a2 a3))) := hb1.alloc hb1.size _
    clear hb1 H
    go_wp2_with fail
    refine (within_any _ _ _ _).mono ?_
    rintro e w2 ⟨rfl, hw⟩
    obtain rfl := hw.symm
    rw [q0]
    go_wp2_with fail
    refine (within_any _ _ _ _).mono ?_
    rintro e w2 ⟨rfl, hw⟩
    obtain rfl := hw.symm
    rw [q1]
    go_wp2_with fail
    refine (HD.out _).mono ?_
    rintro e w3 ⟨rfl, hb3⟩
    have HB3 : Hid (Below w.heap.size w (w3.alloc (cell4 c0 c1 c2 c3))) := (HB1.out.trans (hb3.mono HB1.out.size)).alloc (Nat.le_trans HB1.out.size hb3.size) _
    have hz3 := HB3.out.size
    clear hb3
    go_wp2_with fail
    refine (HM.out _).mono ?_
    rintro e w4 ⟨u, rfl, ho, hb4⟩
    have HB4 : Hid (Below w.heap.size w w4) := HB3.out.trans (hb4.mono HB3.out.size)
    have HO : Hid (OwnI w.heap.size w4 u [c0, c1, c2, c3]) := ho.mono HB3.out.size
    clear ho hb4
    go_wp2
    go_ret2
    exact ⟨u, by rw [HF.out]; rfl, by rw [HR.out]; exact HO.out, HB4.out⟩
end Go.Proofs.Ytofbholpggkjcab

/- How a list of numbers that came in is read. -/
namespace Go.Proofs.Ytofbholpggkjcab
open Go.ChangeShapes Go.WideShapes Go.ChangeAt Go.RowKit

theorem own : ownKnob Try.prog.godebug = none := by kernel_rfl
theorem laidOut : laidOutB Try.prog = true := by kernel_rfl
theorem cells3 : Try.prog.cellsOf 3 = 1 := by kernel_rfl
theorem add_plain (b off n : Nat) : (⟨b, off, none⟩ : Addr).add n = ⟨b, off + n, none⟩ := by
  unfold Addr.add
  split <;> simp_all
theorem ints_list {w : World} {b off : Nat} : ∀ n, (∀ i, i < n → ∃ z : Int, w.cell? ⟨b, off + i, none⟩ = some (.int .i64 z)) → ∃ l : List Int, l.length = n ∧ ∀ i, i < n → w.cell? ⟨b, off + i, none⟩ = some (.int .i64 (intAt l i))
  | 0, _ => ⟨[], rfl, fun i hi => by omega⟩
  | n + 1, h => by
    obtain ⟨l, hl, hi⟩ := ints_list n (fun i hi => h i (by omega))
    obtain ⟨e, he⟩ := h n (by omega)
    refine ⟨l ++ [e], by simp [hl], fun i hi' => ?_⟩
    by_cases hin : i < n
    · have : intAt (l ++ [e]) i = intAt l i := by unfold intAt; simp [List.getElem?_append_left (by omega : i < l.length)]
      rw [this]; exact hi i hin
    · have : intAt (l ++ [e]) i = e := by unfold intAt; simp [show i = l.length by omega]
      rw [this, show i = n by omega]; exact he
set_option maxRecDepth 100000 in
theorem open_ints' {H : Type} {enc : TypeId × Value → H} {w : World} {b0 : Nat} {spare : Nat → Bool} {held : Bool} {r : Reach} {v : Value} {d : DataW H} {p : List MemPlace}
    (hv : Value.okWide Try.prog w r b0 22 v) (h : DataW.Trod enc Try.prog w 0 spare held 22 v d p) : ∃ l : List Int, IsI w v l := by
  obtain ⟨a0, len, cap, rfl⟩ := okWide_slice Try.underlying22 hv
  obtain ⟨fuel, hf⟩ := h
  rcases DataW.trod_slice Try.underlying22 hf with ⟨hcs, _⟩ | ⟨a, len', cap', elems, rest, n, _, hcs, _, hb, hl, hm, hlen, hel, _, _⟩
  · simp [Value.cells] at hcs
    obtain ⟨rfl, rfl, rfl⟩ := hcs
    exact ⟨[], _, _, rfl, Nat.le_refl _, by unfold maxLen; omega, .inl rfl⟩
  · simp [Value.cells] at hcs
    obtain ⟨rfl, rfl, rfl⟩ := hcs
    by_cases h0 : len = 0
    · subst h0
      exact ⟨[], _, _, rfl, hl, hm, .inl rfl⟩
    · obtain ⟨b, off, spot⟩ := a
      have hs : spot = none := by
        have h1 := hel 0 (by omega)
        rw [cells3, List.getElem?_eq_getElem (by omega)] at h1
        obtain ⟨cs, hc, ht⟩ := Option.bind_eq_some_iff.1 h1
        obtain ⟨t, rfl, _⟩ := DataW.trod_int Try.underlying3 ht
        have c0 := (World.cells?_some hc).2.2 0 (by omega)
        simpa [Addr.add] using World.cell?_spot c0
      subst hs
      have each : ∀ i, i < len → ∃ z : Int, w.cell? ⟨b, off + i, none⟩ = some (.int .i64 z) ∧ b < w.heap.size := by
        intro i hi
        have h1 := hel i hi
        rw [cells3, List.getElem?_eq_getElem (by omega), add_plain] at h1
        obtain ⟨cs, hc, ht⟩ := Option.bind_eq_some_iff.1 h1
        obtain ⟨t, rfl, _, hw⟩ := DataW.trod_int Try.underlying3 ht
        have hblk : b < w.heap.size := World.cells?_block hc (by omega)
        obtain ⟨_, _, hcell⟩ := World.cells?_some hc
        have h2 := hcell 0 (by omega)
        simp only [add_plain] at h2
        exact ⟨t, by simpa using h2, hblk⟩
      obtain ⟨_, _, hblk⟩ := each 0 (by omega)
      obtain ⟨l, rfl, hi⟩ := ints_list (w := w) (b := b) (off := off) len (fun i hi => by
        obtain ⟨e, he, _⟩ := each i hi
        exact ⟨e, he⟩)
      exact ⟨l, _, _, rfl, hl, hm, .inr ⟨b, off, rfl, hblk, hi⟩⟩
end Go.Proofs.Ytofbholpggkjcab

