/- VWh, VSame, VDrawD, VCmp, VFnOk, VTwoP -/
import Derived.Test.YtmpoffepoafblaaGreatVectorsG03
import Derived.Test.YtmpoffepoafblaaGreatVectorsG01
import Derived.Test.YtmpoffepoafblaaGreatVectorsG04
import Derived.Test.YtmpoffepoafblaaGreatVectorsG06
import Derived.Test.YtmpoffepoafblaaGreatVectorsG02
import Derived.Test.YtmpoffepoafblaaGreatVectorsG05
/- Vectors: both Wholes. -/
namespace Go.Proofs.YtmpoffepoafblaaGreat
open Go.RowKit
def whN (l : List Int) : Int := l.foldl (fun n z => if z = -1 then 2 * n else n) 1
theorem whN_next {l : List Int} {k : Nat} (h : k < l.length) {z : Int} (hz : z = intAt l k) : whN (l.take (k + 1)) = if z = -1 then 2 * whN (l.take k) else whN (l.take k) := by
  have e : l.take (k + 1) = l.take k ++ [z] := by rw [List.take_add_one, hz]; simp [intAt, h]
  rw [e]; simp [whN]
theorem whN_low (l : List Int) : 1 ≤ whN l ∧ whN l ≤ 2 ^ l.length := by
  have : ∀ (l : List Int) (n : Int), 1 ≤ n → n ≤ l.foldl (fun n z => if z = -1 then 2 * n else n) n ∧ l.foldl (fun n z => if z = -1 then 2 * n else n) n ≤ n * 2 ^ l.length := by
    intro l
    induction l with
    | nil => intro n _; simp
    | cons z r ih =>
      intro n hn
      simp only [List.foldl_cons, List.length_cons, Int.pow_succ]
      have hp : (0 : Int) < 2 ^ r.length := Int.pow_pos (by omega)
      split
      · have := ih (2 * n) (by omega)
        rw [show n * (2 ^ r.length * 2) = 2 * n * 2 ^ r.length by rw [Int.mul_comm (2 ^ r.length) 2, ← Int.mul_assoc, Int.mul_comm n 2]]
        omega
      · have := ih n hn
        have h2 : n * 2 ^ r.length ≤ n * (2 ^ r.length * 2) := Int.mul_le_mul_of_nonneg_left (by omega) (by omega)
        omega
  have h := this l 1 (by omega)
  unfold whN; omega
theorem whN_small {l : List Int} {k : Nat} (hl : l.length = 4) (hk : k < 4) : 1 ≤ whN (l.take k) ∧ whN (l.take k) ≤ 8 := by
  have h := whN_low (l.take k)
  have e : (l.take k).length = k := by simp; omega
  rw [e] at h
  have hk4 : k = 0 ∨ k = 1 ∨ k = 2 ∨ k = 3 := by omega
  rcases hk4 with rfl | rfl | rfl | rfl <;> exact ⟨h.1, Int.le_trans h.2 (by decide)⟩
set_option maxRecDepth 100000 in
set_option maxHeartbeats 2000000 in
theorem wholes_any (a0 a1 a2 a3 : Int) (w : World) :
    Calls Tryz.prog 97 #[vec a0 a1 a2 a3] w fun e w' => e = .returned (.int .i64 (whN [a0, a1, a2, a3])) ∧ Below w.heap.size w w' := by
  have j0 : ∀ w : World, (Instr.index 107 (.agg #[.int .i64 a0, .int .i64 a1, .int .i64 a2, .int .i64 a3]) (.int .i64 0)).run Tryz.prog w = .ok (.int .i64 a0) w := fun _ => by kernel_rfl
  have j1 : ∀ w : World, (Instr.index 107 (.agg #[.int .i64 a0, .int .i64 a1, .int .i64 a2, .int .i64 a3]) (.int .i64 1)).run Tryz.prog w = .ok (.int .i64 a1) w := fun _ => by kernel_rfl
  have j2 : ∀ w : World, (Instr.index 107 (.agg #[.int .i64 a0, .int .i64 a1, .int .i64 a2, .int .i64 a3]) (.int .i64 2)).run Tryz.prog w = .ok (.int .i64 a2) w := fun _ => by kernel_rfl
  have j3 : ∀ w : World, (Instr.index 107 (.agg #[.int .i64 a0, .int .i64 a1, .int .i64 a2, .int .i64 a3]) (.int .i64 3)).run Tryz.prog w = .ok (.int .i64 a3) w := fun _ => by kernel_rfl
  have HB0 : Hid (Below w.heap.size w (w.alloc (cell4 a0 a1 a2 a3))) := (Below.refl _ w).alloc (Nat.le_refl _) _
  go_enter Tryz.func97, Tryz.ntmps97
  go_wp2
  generalize w.alloc (cell4 a0 a1 a2 a3) = W0 at HB0 ⊢
  go_loop [3, 7] (fun n i => ∃ (k : Nat) (N : Int), k ≤ 4 ∧ i = .int .i64 k ∧ n = .int .i64 N ∧ Hid (N = whN ([a0, a1, a2, a3].take k))) (fun _ i => 4 - (intOf i).toNat)
  case atStart => exact ⟨0, 1, by omega, rfl, rfl, rfl⟩
  case round =>
    obtain ⟨k, N, hk, rfl, rfl, HN⟩ := hrel
    have hk4 : k = 0 ∨ k = 1 ∨ k = 2 ∨ k = 3 ∨ k = 4 := by omega
    clear hk
    rcases hk4 with rfl | rfl | rfl | rfl | rfl
    · have HX : Hid (whN ([a0, a1, a2, a3].take (0 + 1)) = if a0 = -1 then 2 * N else N) := by have := whN_next (l := [a0, a1, a2, a3]) (k := 0) (by simp) (z := a0) rfl; rw [← HN.out] at this; exact this
      have hb := whN_small (l := [a0, a1, a2, a3]) (k := 0) rfl (by omega)
      rw [← HN.out] at hb
      have hN1 : 1 ≤ N := hb.1
      have hN2 : N ≤ 8 := hb.2
      clear hb HN
      by_cases e : a0 = -1
      · have HE : Hid (a0 = -1) := e
        have d : (a0 == (-1 : Int)) = true := by simp [e]
        clear e
        go_wp2
        go_round
        case rel => exact ⟨1, 2 * N, by omega, rfl, by go_num, by show _ = _; rw [HX.out, if_pos HE.out]⟩
        case measure => simp [intOf]
      · have HE : Hid (¬ a0 = -1) := e
        have d : (a0 == (-1 : Int)) = false := by simp [e]
        clear e
        go_wp2
        go_round
        case rel => exact ⟨1, N, by omega, rfl, rfl, by show _ = _; rw [HX.out, if_neg HE.out]⟩
        case measure => simp [intOf]
    · have HX : Hid (whN ([a0, a1, a2, a3].take (1 + 1)) = if a1 = -1 then 2 * N else N) := by have := whN_next (l := [a0, a1, a2, a3]) (k := 1) (by simp) (z := a1) rfl; rw [← HN.out] at this; exact this
      have hb := whN_small (l := [a0, a1, a2, a3]) (k := 1) rfl (by omega)
      rw [← HN.out] at hb
      have hN1 : 1 ≤ N := hb.1
      have hN2 : N ≤ 8 := hb.2
      clear hb HN
      by_cases e : a1 = -1
      · have HE : Hid (a1 = -1) := e
        have d : (a1 == (-1 : Int)) = true := by simp [e]
        clear e
        go_wp2
        go_round
        case rel => exact ⟨2, 2 * N, by omega, rfl, by go_num, by show _ = _; rw [HX.out, if_pos HE.out]⟩
        case measure => simp [intOf]
      · have HE : Hid (¬ a1 = -1) := e
        have d : (a1 == (-1 : Int)) = false := by simp [e]
        clear e
        go_wp2
        go_round
        case rel => exact ⟨2, N, by omega, rfl, rfl, by show _ = _; rw [HX.out, if_neg HE.out]⟩
        case measure => simp [intOf]
    · have HX : Hid (whN ([a0, a1, a2, a3].take (2 + 1)) = if a2 = -1 then 2 * N else N) := by have := whN_next (l := [a0, a1, a2, a3]) (k := 2) (by simp) (z := a2) rfl; rw [← HN.out] at this; exact this
      have hb := whN_small (l := [a0, a1, a2, a3]) (k := 2) rfl (by omega)
      rw [← HN.out] at hb
      have hN1 : 1 ≤ N := hb.1
      have hN2 : N ≤ 8 := hb.2
      clear hb HN
      by_cases e : a2 = -1
      · have HE : Hid (a2 = -1) := e
        have d : (a2 == (-1 : Int)) = true := by simp [e]
        clear e
        go_wp2
        go_round
        case rel => exact ⟨3, 2 * N, by omega, rfl, by go_num, by show _ = _; rw [HX.out, if_pos HE.out]⟩
        case measure => simp [intOf]
      · have HE : Hid (¬ a2 = -1) := e
        have d : (a2 == (-1 : Int)) = false := by simp [e]
        clear e
        go_wp2
        go_round
        case rel => exact ⟨3, N, by omega, rfl, rfl, by show _ = _; rw [HX.out, if_neg HE.out]⟩
        case measure => simp [intOf]
    · have HX : Hid (whN ([a0, a1, a2, a3].take (3 + 1)) = if a3 = -1 then 2 * N else N) := by have := whN_next (l := [a0, a1, a2, a3]) (k := 3) (by simp) (z := a3) rfl; rw [← HN.out] at this; exact this
      have hb := whN_small (l := [a0, a1, a2, a3]) (k := 3) rfl (by omega)
      rw [← HN.out] at hb
      have hN1 : 1 ≤ N := hb.1
      have hN2 : N ≤ 8 := hb.2
      clear hb HN
      by_cases e : a3 = -1
      · have HE : Hid (a3 = -1) := e
        have d : (a3 == (-1 : Int)) = true := by simp [e]
        clear e
        go_wp2
        go_round
        case rel => exact ⟨4, 2 * N, by omega, rfl, by go_num, by show _ = _; rw [HX.out, if_pos HE.out]⟩
        case measure => simp [intOf]
      · have HE : Hid (¬ a3 = -1) := e
        have d : (a3 == (-1 : Int)) = false := by simp [e]
        clear e
        go_wp2
        go_round
        case rel => exact ⟨4, N, by omega, rfl, rfl, by show _ = _; rw [HX.out, if_neg HE.out]⟩
        case measure => simp [intOf]
    · go_wp2
      go_ret
      exact ⟨ret_int HN.out, HB0.out⟩
set_option maxHeartbeats 1000000 in
theorem iWholes_any (x : Value) (l : List Int) (w : World) (hl : l.length ≤ 4611686018427387904) (h : IsI w x l) :
    Calls Tryz.prog 39 #[x] w fun e w' => e = .returned (.int .i64 (if vok l = true then whN l else 0)) ∧ Below w.heap.size w w' := by
  have H := of_any x l w hl h
  cases hv : vok l with
  | false =>
    rw [hv, vec_no hv] at H
    go_enter Tryz.func39, Tryz.ntmps39
    go_wp2_with fail
    refine H.mono ?_
    rintro e w1 ⟨rfl, hb1⟩
    go_wp2
    go_ret
    exact ⟨rfl, hb1.alloc hb1.size _⟩
  | true =>
    rw [hv] at H
    obtain ⟨a0, a1, a2, a3, rfl, _⟩ := vok_four hv
    rw [show vecOf [a0, a1, a2, a3] = vec a0 a1 a2 a3 by simp [vecOf, hv, intAt]] at H
    have M : Hid (∀ W, Calls Tryz.prog 97 #[vec a0 a1 a2 a3] W fun e w' => e = .returned (.int .i64 (whN [a0, a1, a2, a3])) ∧ Below W.heap.size W w') := fun W => wholes_any a0 a1 a2 a3 W
    go_enter Tryz.func39, Tryz.ntmps39
    go_wp2_with fail
    refine H.mono ?_
    rintro e w1 ⟨rfl, hb1⟩
    go_wp2_with fail
    refine (M.out _).mono ?_
    rintro e w2 ⟨rfl, hb2⟩
    have hz := hb1.size
    go_wp2
    go_ret
    exact ⟨rfl, (hb1.alloc hb1.size _).trans (hb2.mono (by simp; omega))⟩
end Go.Proofs.YtmpoffepoafblaaGreat

/- laws.sameInts: are two rows of numbers the same? -/
namespace Go.Proofs.YtmpoffepoafblaaGreat
open Go.RowKit
theorem ints_ext {l r : List Int} (hl : l.length = r.length) (h : ∀ j, j < l.length → intAt l j = intAt r j) : l = r := by
  refine List.ext_getElem hl fun j h1 h2 => ?_
  have := h j h1
  simpa [intAt, h1, h2] using this
theorem ints_no {l r : List Int} {j : Nat} (h : intAt l j ≠ intAt r j) : decide (l = r) = false := by
  simp only [decide_eq_false_iff_not]
  intro e
  exact h (by rw [e])
set_option maxRecDepth 100000 in
set_option maxHeartbeats 2000000 in
theorem sameI_any (x y : Value) (l r : List Int) (w : World) (hl : l.length ≤ 4611686018427387904) (hr : r.length ≤ 4611686018427387904) (hx : IsI w x l) (hy : IsI w y r) :
    Calls Tryz.prog 33 #[x, y] w fun e w' => e = .returned (.bool (decide (l = r))) ∧ Below w.heap.size w w' := by
  obtain ⟨a, cap, rfl, h1, h2, h⟩ := hx
  obtain ⟨a', cap', rfl, h1', h2', h'⟩ := hy
  clear h1 h2 h1' h2'
  by_cases hn : l.length = r.length
  · have HN : Hid (l.length = r.length) := hn
    rw [← hn]
    by_cases hz : l = []
    · subst hz
      have hz2 : r = [] := List.eq_nil_of_length_eq_zero (by simpa using hn.symm)
      subst hz2
      clear h h' hn HN
      go_enter Tryz.func33, Tryz.ntmps33
      go_wp2
      go_loop [5] (fun i => i = .int .i64 0) (fun _ => 0)
      case atStart => rfl
      case round =>
        subst hrel
        go_wp2
        go_ret
        exact ⟨by simp, Below.refl _ _⟩
    · obtain ⟨b, off, rfl, hb, hc⟩ := h.resolve_left hz
      obtain ⟨b', off', rfl, hb', hc'⟩ := h'.resolve_left (fun e => hz (by rw [e] at hn; exact List.eq_nil_of_length_eq_zero (by simpa using hn)))
      clear h h' hz hn
      go_enter Tryz.func33, Tryz.ntmps33
      go_wp2
      go_loopw [5] (fun i wr => ∃ k : Nat, k ≤ l.length ∧ i = .int .i64 k ∧ Below w.heap.size w wr ∧ Hid (∀ j, j < k → intAt l j = intAt r j)) (fun i _ => l.length - (intOf i).toNat)
      case atStart => exact ⟨0, Nat.zero_le _, rfl, Below.refl _ _, fun j hj => absurd hj (by omega)⟩
      case round =>
        obtain ⟨k, hk, rfl, hB, HS⟩ := hrel
        have HB : Hid (Below w.heap.size w wr) := hB
        by_cases hlt : k < l.length
        · have f0 := (hB.cell (p := ⟨b, off + k, none⟩) hb).trans (hc k hlt)
          have e0 := (hB.cell (p := ⟨b', off' + k, none⟩) hb').trans (hc' k (by have := HN.out; omega))
          obtain ⟨z, hz⟩ : ∃ z, intAt l k = z := ⟨_, rfl⟩
          obtain ⟨z', hz'⟩ : ∃ z, intAt r k = z := ⟨_, rfl⟩
          have HZ : Hid (intAt l k = z) := hz
          have HZ' : Hid (intAt r k = z') := hz'
          rw [hz] at f0
          rw [hz'] at e0
          clear hB hc hc' hz hz'
          by_cases hzz : z = z'
          · subst hzz
            go_wp2_with fail
            go_region_held3 (fun W => W.cell? ⟨b, off + k, none⟩ = some (.int .i64 z) ∧ W.cell? ⟨b', off' + k, none⟩ = some (.int .i64 z)) ((repeat' apply And.intro) <;> go_keep) (fail)
            go_wp2
            go_roundw
            case rel =>
              refine ⟨k + 1, by omega, by go_num, HB.out.drew, fun j hj => ?_⟩
              by_cases hjk : j < k
              · exact HS.out j hjk
              · obtain rfl : k = j := by omega
                exact HZ.out.trans HZ'.out.symm
            case measure => simp [intOf]; omega
          · have HD : Hid (decide (l = r) = false) := ints_no (j := k) (by rw [HZ.out, HZ'.out]; exact hzz)
            have hq : (z != z') = true := by simp [hzz]
            go_wp2_with fail
            go_region_held3 (fun W => W.cell? ⟨b, off + k, none⟩ = some (.int .i64 z) ∧ W.cell? ⟨b', off' + k, none⟩ = some (.int .i64 z')) ((repeat' apply And.intro) <;> go_keep) (fail)
            go_wp2
            go_ret
            exact ⟨congrArg (fun b => Ending.returned (.bool b)) HD.out.symm, HB.out.drew⟩
        · have HD : Hid (decide (l = r) = true) := by
            show decide (l = r) = true
            have hkl : k = l.length := by omega
            rw [hkl] at HS
            simp only [decide_eq_true_eq]
            exact ints_ext HN.out HS.out
          clear hB hc hc'
          go_wp2
          go_ret
          exact ⟨congrArg (fun b => Ending.returned (.bool b)) HD.out.symm, HB.out⟩
  · have hd : decide (l = r) = false := by
      simp only [decide_eq_false_iff_not]
      intro e
      exact hn (by rw [e])
    rw [hd]
    clear h h' hd
    have hq : ((l.length : Int) != (r.length : Int)) = true := by simp; omega
    go_enter Tryz.func33, Tryz.ntmps33
    go_wp2
    go_ret
    exact ⟨rfl, Below.refl _ _⟩
end Go.Proofs.YtmpoffepoafblaaGreat

/- Drawn decisions. -/
namespace Go.Proofs.YtmpoffepoafblaaGreat
open Go.RowKit
set_option maxRecDepth 100000 in
set_option maxHeartbeats 2000000 in
theorem drawDec_any (a : Option Addr) (n cap : Nat) (w : World) (hn : n ≤ 281474976710656) (hC : CodeIn w w.heap.size a n) :
    Calls Tryz.prog 40 #[.slice a n cap] w fun e w' => ∃ (u : Value) (l : List Int) (d v : Int), e = .returned (.tuple #[u, .int .i64 d, .int .i64 v]) ∧ l.length = 4 ∧ OwnI w.heap.size w' u l ∧ -1 ≤ v ∧ v ≤ 2 ∧ Below w.heap.size w w' := by
  have HC : Hid (CodeIn w w.heap.size a n) := hC
  clear hC
  go_enter Tryz.func40, Tryz.ntmps40
  go_wp2_with fail
  refine (new_any a n cap _ hn HC.out).mono ?_
  rintro e w1 ⟨c, rfl, hcw, hC1, hB1⟩
  have HC1 : Hid (Cur w1 c) := hC1
  have HB1 : Hid (Below w.heap.size w w1) := hB1
  have hc1 : c < w1.heap.size := hC1.lt
  clear hC1 hB1 HC
  go_wp2_with fail
  refine (l3_any c _ HC1.out).mono ?_
  rintro e w2 ⟨u, l, rfl, hl, hO2, hC2, hT2⟩
  have HL : Hid (l.length = 4) := hl
  have HO2 : Hid (OwnI w1.heap.size w2 u l) := hO2
  have HC2 : Hid (Cur w2 c) := hC2
  have HT2 : Hid (Turns (fun k => k = c) w1 w2) := hT2
  clear hl hO2 hC2 hT2 HC1
  go_wp2_with fail
  refine (below_any c _ _ HC2.out).mono ?_
  rintro e w3 ⟨x, rfl, hx0, hx1, hC3, hT3⟩
  have hx2 := hx1 (by omega)
  have HC3 : Hid (Cur w3 c) := hC3
  have HO3 : Hid (OwnI w1.heap.size w3 u l) := HO2.out.turns hT3 hc1
  have HT3 : Hid (Turns (fun k => k = c) w1 w3) := HT2.out.trans hT3
  clear hx1 hC3 hT3 HC2 HO2 HT2
  go_wp2_with fail
  refine (below_any c _ _ HC3.out).mono ?_
  rintro e w4 ⟨y, rfl, hy0, hy1, hC4, hT4⟩
  have hy2 := hy1 (by omega)
  have HO4 : Hid (OwnI w1.heap.size w4 u l) := HO3.out.turns hT4 hc1
  have HT4 : Hid (Turns (fun k => k = c) w1 w4) := HT3.out.trans hT4
  have hzw : w.heap.size ≤ w1.heap.size := HB1.out.size
  have HB4 : Hid (Below w.heap.size w w4) := HB1.out.trans (HT4.out.to_below (fun k hk => by omega) hzw)
  clear hy1 hC4 hT4 HC3 HO3 HT3 HT4
  go_wp2
  refine bodyPost_ret (v := .tuple #[u, .int .i64 (x - 1), .int .i64 (y - 1)]) (by simp [results, Tryz.results40, go_sem]) rfl ?_
  exact ⟨u, l, x - 1, y - 1, rfl, HL.out, HO4.out.mono hzw, by omega, by omega, HB4.out⟩
theorem decF_set {l : List Int} {d v : Int} (h : decF l d v = true) : vok l = true ∧ 0 ≤ d ∧ d ≤ 3 ∧ 0 ≤ v ∧ v ≤ 1 ∧ intAt l d.toNat = -1 ∧ decR l d v = l.set d.toNat v := by
  simp only [decF, Bool.and_eq_true, decide_eq_true_eq] at h
  have h2 := decB_iff.1 h.1
  exact ⟨h2.1, h2.2.1, h2.2.2.1, h2.2.2.2.1, h2.2.2.2.2, h.2, by simp [decR, h.1, h.2]⟩
theorem decF_other {l : List Int} {d v : Int} (h : decF l d v = true) : decF l d (1 - v) = true := by
  obtain ⟨h1, h2, h3, h4, h5, h6, _⟩ := decF_set h
  simp only [decF, Bool.and_eq_true, decide_eq_true_eq]
  exact ⟨decB_iff.2 ⟨h1, h2, h3, by omega, by omega⟩, h6⟩
theorem dec_facts {l : List Int} {d v : Int} (h : decF l d v = true) :
    (vok (decR l d v) && vok (decR l d (1 - v)) && meetB (decR l d v) (decR l d (1 - v))) = false ∧ (vok (decR l d v) && vok l && refB (decR l d v) l) = true ∧
    (if vok (decR l d v) = true then whN (decR l d v) else 0) * 2 = (if vok l = true then whN l else 0) ∧ 1 ≤ (if vok (decR l d v) = true then whN (decR l d v) else 0) ∧ (if vok (decR l d v) = true then whN (decR l d v) else 0) ≤ 16 := by
  have h' := decF_set (decF_other h)
  obtain ⟨h1, h2, h3, h4, h5, h6, h7⟩ := decF_set h
  rw [h7, h'.2.2.2.2.2.2]
  obtain ⟨k, hk⟩ : ∃ k : Nat, d.toNat = k := ⟨_, rfl⟩
  have hk3 : k < 4 := by omega
  rw [hk] at h6 ⊢
  clear h h' h7 h2 h3 hk
  obtain ⟨a, b, c, e, rfl, ha, hb, hc, he⟩ := vok_four h1
  have hv : v = 0 ∨ v = 1 := by omega
  have hk4 : k = 0 ∨ k = 1 ∨ k = 2 ∨ k = 3 := by omega
  have ha' : a = -1 ∨ a = 0 ∨ a = 1 := by omega
  have hb' : b = -1 ∨ b = 0 ∨ b = 1 := by omega
  have hc' : c = -1 ∨ c = 0 ∨ c = 1 := by omega
  have he' : e = -1 ∨ e = 0 ∨ e = 1 := by omega
  clear ha hb hc he h1 h4 h5 hk3
  revert h6
  rcases hv with rfl | rfl <;> rcases hk4 with rfl | rfl | rfl | rfl <;> rcases ha' with rfl | rfl | rfl <;> rcases hb' with rfl | rfl | rfl <;> rcases hc' with rfl | rfl | rfl <;> rcases he' with rfl | rfl | rfl <;> decide
theorem dec_no_same {l : List Int} {d v : Int} (h : decF l d v = false) : decR l d v = [] ∨ decR l d v = l := by
  unfold decF at h
  unfold decR
  by_cases h1 : decB l d v = true
  · simp only [h1, Bool.true_and, decide_eq_false_iff_not] at h
    simp [h1, h]
  · simp [h1]
end Go.Proofs.YtmpoffepoafblaaGreat

/- Vectors: both VectorCmp. -/
namespace Go.Proofs.YtmpoffepoafblaaGreat
open Go.RowKit
def numC (a b : Int) : Int := if a < b then -1 else if b < a then 1 else 0
def cmpV (l r : List Int) : Int :=
  if intAt l 0 ≠ intAt r 0 then numC (intAt l 0) (intAt r 0) else if intAt l 1 ≠ intAt r 1 then numC (intAt l 1) (intAt r 1) else
  if intAt l 2 ≠ intAt r 2 then numC (intAt l 2) (intAt r 2) else if intAt l 3 ≠ intAt r 3 then numC (intAt l 3) (intAt r 3) else 0
theorem cmpV_at {l r : List Int} {k : Nat} (hk : k < 4) (hs : ∀ j, j < k → intAt l j = intAt r j) (h : intAt l k ≠ intAt r k) : cmpV l r = numC (intAt l k) (intAt r k) := by
  have hk4 : k = 0 ∨ k = 1 ∨ k = 2 ∨ k = 3 := by omega
  unfold cmpV
  rcases hk4 with rfl | rfl | rfl | rfl
  · rw [if_pos h]
  · rw [if_neg (by simp [hs 0 (by omega)]), if_pos h]
  · rw [if_neg (by simp [hs 0 (by omega)]), if_neg (by simp [hs 1 (by omega)]), if_pos h]
  · rw [if_neg (by simp [hs 0 (by omega)]), if_neg (by simp [hs 1 (by omega)]), if_neg (by simp [hs 2 (by omega)]), if_pos h]
theorem cmpV_same {l r : List Int} (hs : ∀ j, j < 4 → intAt l j = intAt r j) : cmpV l r = 0 := by
  simp [cmpV, hs 0 (by omega), hs 1 (by omega), hs 2 (by omega), hs 3 (by omega)]
theorem numC_ne {a b : Int} (h : a ≠ b) : numC a b = -1 ∨ numC a b = 1 := by unfold numC; split <;> (try split) <;> omega
set_option maxHeartbeats 400000 in
theorem l1numC_any (a b : Int) (w : World) : Calls Tryz.prog 229 #[.int .i64 a, .int .i64 b] w fun e w' => e = .returned (.int .i64 (numC a b)) ∧ w' = w := by
  go_enter Tryz.func229, Tryz.ntmps229
  go_wp2
  all_goals
    go_ret
    exact ⟨ret_int (by simp [numC, *] <;> omega), rfl⟩
set_option maxHeartbeats 400000 in
theorem isNaN_any (a : Int) (w : World) : Calls Tryz.prog 217 #[.int .i64 a] w fun e w' => e = .returned (.bool false) ∧ w' = w := by
  go_enter Tryz.func217, Tryz.ntmps217
  go_wp2
  go_ret
  exact ⟨ret_bool (by simp), rfl⟩
set_option maxHeartbeats 400000 in
theorem compareC_any (a b : Int) (w : World) : Calls Tryz.prog 163 #[.int .i64 a, .int .i64 b] w fun e w' => e = .returned (.int .i64 (numC a b)) ∧ w' = w := by
  go_enter Tryz.func163, Tryz.ntmps163
  go_wp2_with (go_at_call 217; refine (isNaN_any _ _).mono ?_; rintro e w1 ⟨rfl, hw⟩; obtain rfl := hw.symm)
  all_goals
    go_ret
    exact ⟨ret_int (by simp [numC, *] <;> omega), rfl⟩

set_option maxHeartbeats 2000000 in
theorem libCmp_any (b b' : Nat) (l r : List Int) (w : World) (hl : l.length = 4) (hr : r.length = 4) (hI : IntsAt w b 0 l) (hJ : IntsAt w b' 0 r) :
    Calls Tryz.prog 96 #[sl b 4, sl b' 4] w fun e w' => e = .returned (.int .i64 (cmpV l r)) ∧ Below w.heap.size w w' := by
  have HL : Hid (l.length = 4) := hl
  have HR : Hid (r.length = 4) := hr
  have HI0 : Hid (IntsAt w b 0 l) := hI
  have HJ0 : Hid (IntsAt w b' 0 r) := hJ
  clear hl hr hI hJ
  go_enter Tryz.func96, Tryz.ntmps96
  go_wp2
  go_loopw [11] (fun i wr => ∃ k : Nat, k ≤ 4 ∧ i = .int .i64 k ∧ Below w.heap.size w wr ∧ ∀ j, j < k → intAt l j = intAt r j) (fun i _ => 4 - (intOf i).toNat)
  case atStart => exact ⟨0, by omega, rfl, Below.refl _ _, fun j hj => by omega⟩
  case round =>
    obtain ⟨k, hk, rfl, hB, hall⟩ := hrel
    have HB : Hid (Below w.heap.size w wr) := hB
    have HA : Hid (∀ j, j < k → intAt l j = intAt r j) := hall
    clear hall
    by_cases hlt : k < 4
    · obtain ⟨x, hx⟩ : ∃ x, x = intAt l k := ⟨_, rfl⟩
      obtain ⟨y, hy⟩ : ∃ y, y = intAt r k := ⟨_, rfl⟩
      have fx := (hB.cell (p := ⟨b, 0 + k, none⟩) HI0.out.1).trans (HI0.out.2 k (by rw [HL.out]; exact hlt))
      have fy := (hB.cell (p := ⟨b', 0 + k, none⟩) HJ0.out.1).trans (HJ0.out.2 k (by rw [HR.out]; exact hlt))
      rw [← hx] at fx
      rw [← hy] at fy
      have gx : ∀ p : Beyond wr, p.w.cell? ⟨b, 0 + k, none⟩ = some (.int .i64 x) := fun p => p.cell (Nat.lt_of_lt_of_le HI0.out.1 HB.out.size) fx
      have gy : ∀ p : Beyond wr, p.w.cell? ⟨b', 0 + k, none⟩ = some (.int .i64 y) := fun p => p.cell (Nat.lt_of_lt_of_le HJ0.out.1 HB.out.size) fy
      simp only [Nat.zero_add] at fx fy gx gy
      have HX : Hid (x = intAt l k) := hx
      have HY : Hid (y = intAt r k) := hy
      clear hx hy hB
      have hki : (k : Int) < 4 := by omega
      by_cases e3 : x = y
      · have d3 : (x != y) = false := by simp [e3]
        have HE : Hid (x = y) := e3
        have HN : Hid (numC x y = 0) := by show _ = _; simp [numC, e3]
        clear e3
        go_wp2_with fail
        refine (compareC_any _ _ _).mono ?_
        rintro e w1 ⟨rfl, hw⟩
        obtain rfl := hw.symm
        rw [HN.out]
        go_wp2
        go_roundw
        case rel => exact ⟨k + 1, by omega, by go_num, HB.out, fun j hj => by
          by_cases e : j < k
          · exact HA.out j e
          · rw [show j = k by omega, ← HX.out, ← HY.out]; exact HE.out⟩
        case measure => simp [intOf]; omega
      · have d3 : (x != y) = true := by simp [e3]
        have HV : Hid (cmpV l r = numC x y) := by
          have := cmpV_at (l := l) (r := r) hlt HA.out (by rw [← HX.out, ← HY.out]; exact e3)
          rw [← HX.out, ← HY.out] at this
          exact this
        have HN : Hid (numC x y = -1 ∨ numC x y = 1) := numC_ne e3
        clear e3
        go_wp2_with fail
        refine (compareC_any _ _ _).mono ?_
        rintro e w1 ⟨rfl, hw⟩
        obtain rfl := hw.symm
        obtain hn | hn := HN.out
        · rw [hn]
          go_wp2
          go_ret
          exact ⟨ret_int (by rw [HV.out, hn]), HB.out⟩
        · rw [hn]
          go_wp2
          go_ret
          exact ⟨ret_int (by rw [HV.out, hn]), HB.out⟩
    · have HV : Hid (cmpV l r = 0) := cmpV_same (fun j hj => HA.out j (by omega))
      clear hB
      go_wp2
      go_ret
      exact ⟨ret_int HV.out.symm, HB.out⟩
set_option maxHeartbeats 1000000 in
theorem iCmpV_any (x y : Value) (l r : List Int) (w : World) (hl : l.length ≤ 4611686018427387904) (hr : r.length ≤ 4611686018427387904) (h : IsI w x l) (k : IsI w y r) :
    Calls Tryz.prog 38 #[x, y] w fun e w' => e = .returned (.int .i64 (if (vok l && vok r) = true then cmpV l r else 0)) ∧ Below w.heap.size w w' := by
  have H := two_any x y l r w hl hr h k
  cases hv : (vok l && vok r) with
  | false =>
    rw [hv] at H
    obtain ⟨p0, p1, p2, p3, hp⟩ := vecOf_form l
    obtain ⟨q0, q1, q2, q3, hq⟩ := vecOf_form r
    rw [hp, hq] at H
    clear hp hq
    go_enter Tryz.func38, Tryz.ntmps38
    go_wp2_with fail
    refine H.mono ?_
    rintro e w1 ⟨rfl, hb1⟩
    go_wp2
    go_ret
    exact ⟨rfl, (hb1.alloc hb1.size _).alloc (by have := hb1.size; simp; omega) _⟩
  | true =>
    rw [hv] at H
    rw [Bool.and_eq_true] at hv
    obtain ⟨a0, a1, a2, a3, rfl, _⟩ := vok_four hv.1
    obtain ⟨b0, b1, b2, b3, rfl, _⟩ := vok_four hv.2
    rw [vecOf_four _ _ _ _ hv.1, vecOf_four _ _ _ _ hv.2] at H
    go_enter Tryz.func38, Tryz.ntmps38
    go_wp2_with fail
    refine H.mono ?_
    rintro e w1 ⟨rfl, hb1⟩
    go_wp2_with fail
    have h1 : IntsAt ((w1.alloc (cell4 a0 a1 a2 a3)).alloc (cell4 b0 b1 b2 b3)) w1.heap.size 0 [a0, a1, a2, a3] := ((V4.new w1 a0 a1 a2 a3).alloc _).ints
    have h2 : IntsAt ((w1.alloc (cell4 a0 a1 a2 a3)).alloc (cell4 b0 b1 b2 b3)) (w1.heap.size + 1) 0 [b0, b1, b2, b3] := by have := (V4.new (w1.alloc (cell4 a0 a1 a2 a3)) b0 b1 b2 b3).ints; rwa [show (w1.alloc (cell4 a0 a1 a2 a3)).heap.size = w1.heap.size + 1 by simp] at this
    have HB : Hid (Below w.heap.size w ((w1.alloc (cell4 a0 a1 a2 a3)).alloc (cell4 b0 b1 b2 b3))) := (hb1.alloc hb1.size _).alloc (by have := hb1.size; simp; omega) _
    clear hb1 h k H
    generalize (w1.alloc (cell4 a0 a1 a2 a3)).alloc (cell4 b0 b1 b2 b3) = W at h1 h2 HB ⊢
    have H1 : Hid (IntsAt W w1.heap.size 0 [a0, a1, a2, a3]) := h1
    have H2 : Hid (IntsAt W (w1.heap.size + 1) 0 [b0, b1, b2, b3]) := h2
    clear h1 h2
    have hC : Hid (∀ p : Beyond W, Calls Tryz.prog 96 #[sl w1.heap.size 4, sl (w1.heap.size + 1) 4] p.w fun e w' => e = .returned (.int .i64 (cmpV [a0, a1, a2, a3] [b0, b1, b2, b3])) ∧ Below p.w.heap.size p.w w') := fun p => libCmp_any _ _ _ _ _ rfl rfl (H1.out.below p.h H1.out.1) (H2.out.below p.h H2.out.1)
    refine wp_region_beyond (by kernel_rfl) (by kernel_rfl) ?_
    repeat (go_big_quiet_step (first | (go_at_call 96; exact Beyond.of (hC.out _))))
    refine wpQuiet_nil ?_
    rintro w2 ⟨⟨_, hb2⟩, rfl⟩
    go_wp2
    go_ret
    exact ⟨rfl, HB.out.trans (hb2.mono HB.out.size)⟩
end Go.Proofs.YtmpoffepoafblaaGreat

/- Vectors: the program's VectorOk. -/
namespace Go.Proofs.YtmpoffepoafblaaGreat
open Go.RowKit
set_option maxHeartbeats 400000 in
theorem iVok_any (x : Value) (l : List Int) (w : World) (hl : l.length ≤ 4611686018427387904) (h : IsI w x l) :
    Calls Tryz.prog 31 #[x] w fun e w' => e = .returned (.bool (vok l)) ∧ Below w.heap.size w w' := by
  have H := of_any x l w hl h
  generalize vok l = b at H ⊢
  unfold vecOf at H
  split at H
  all_goals
    go_enter Tryz.func31, Tryz.ntmps31
    go_wp2_with (go_at_call 66; refine H.mono ?_; rintro e w1 ⟨rfl, hb⟩)
    go_ret
    exact ⟨rfl, hb.alloc hb.size _⟩
end Go.Proofs.YtmpoffepoafblaaGreat

/- Two vectors: what is so of both. -/
namespace Go.Proofs.YtmpoffepoafblaaGreat
open Go.RowKit
theorem meetB_four (a b c d a' b' c' d' : Int) : meetB [a, b, c, d] [a', b', c', d'] = (mB a a' && (mB b b' && (mB c c' && mB d d'))) := by simp [meetB, List.range, List.range.loop, intAt]
theorem refB_four (a b c d a' b' c' d' : Int) : refB [a, b, c, d] [a', b', c', d'] = (rB a a' && (rB b b' && (rB c c' && rB d d'))) := by simp [refB, List.range, List.range.loop, intAt]
def tw (z : Int) : Int := if z = -1 then 2 else 1
theorem whN_four (a b c d : Int) : whN [a, b, c, d] = tw a * tw b * tw c * tw d := by
  simp only [whN, List.foldl, tw]
  split <;> split <;> split <;> split <;> rfl
theorem tw_two (z : Int) : tw z = 1 ∨ tw z = 2 := by unfold tw; split <;> simp
theorem tw_ref {a b : Int} (h : rB a b = true) : tw a ≤ tw b := by
  simp only [rB, Bool.or_eq_true, decide_eq_true_eq] at h
  unfold tw
  split <;> split <;> omega
theorem mul_up {a b c d : Int} (ha : 0 ≤ a) (hc : 0 ≤ c) (h1 : a ≤ b) (h2 : c ≤ d) : a * c ≤ b * d := by
  have h3 : a * c ≤ b * c := Int.mul_le_mul_of_nonneg_right h1 hc
  have h4 : b * c ≤ b * d := Int.mul_le_mul_of_nonneg_left h2 (by omega)
  omega
theorem numC_neg (a b : Int) : numC a b = -numC b a := by unfold numC; split <;> split <;> (try split) <;> omega
theorem numC_zero {a b : Int} : numC a b = 0 ↔ a = b := by
  unfold numC
  split
  · constructor <;> intro h <;> omega
  · split
    · constructor <;> intro h <;> omega
    · constructor
      · intro _; omega
      · intro _; rfl
theorem numC_low (a b : Int) : -1 ≤ numC a b ∧ numC a b ≤ 1 := by unfold numC; split <;> (try split) <;> omega
theorem cmpV_four (a b c d a' b' c' d' : Int) : cmpV [a, b, c, d] [a', b', c', d'] = if a ≠ a' then numC a a' else if b ≠ b' then numC b b' else if c ≠ c' then numC c c' else if d ≠ d' then numC d d' else 0 := by
  rfl
theorem two_facts {l r : List Int} (hl : vok l = true) (hr : vok r = true) : ∃ (rab rba mab sm : Bool) (c wa wb : Int), refB l r = rab ∧ refB r l = rba ∧ meetB l r = mab ∧ meetB r l = mab ∧ cmpV l r = c ∧ cmpV r l = -c ∧ decide (l = r) = sm ∧ whN l = wa ∧ whN r = wb ∧
    (rab = true → mab = true) ∧ (rba = true → mab = true) ∧ (rab = true → wa ≤ wb) ∧ decide (c = 0) = sm ∧ (rab && rba) = sm ∧ -1 ≤ c ∧ c ≤ 1 ∧ 1 ≤ wa ∧ wa ≤ 16 ∧ 1 ≤ wb ∧ wb ≤ 16 := by
  obtain ⟨a, b, c, d, rfl, _⟩ := vok_four hl
  obtain ⟨a', b', c', d', rfl, _⟩ := vok_four hr
  clear hl hr
  have hw := whN_low [a, b, c, d]
  have hw' := whN_low [a', b', c', d']
  refine ⟨_, _, _, _, _, _, _, rfl, rfl, rfl, ?_, rfl, ?_, rfl, rfl, rfl, ?_, ?_, ?_, ?_, ?_, ?_, ?_, hw.1, by simpa using hw.2, hw'.1, by simpa using hw'.2⟩
  · rw [meetB_four, meetB_four]
    simp only [mB]
    congr 1
    · rw [Bool.eq_iff_iff]; simp only [Bool.or_eq_true, decide_eq_true_eq]; omega
    congr 1
    · rw [Bool.eq_iff_iff]; simp only [Bool.or_eq_true, decide_eq_true_eq]; omega
    congr 1
    · rw [Bool.eq_iff_iff]; simp only [Bool.or_eq_true, decide_eq_true_eq]; omega
    · rw [Bool.eq_iff_iff]; simp only [Bool.or_eq_true, decide_eq_true_eq]; omega
  · rw [cmpV_four, cmpV_four]
    have h1 := numC_neg a a'
    have h2 := numC_neg b b'
    have h3 := numC_neg c c'
    have h4 := numC_neg d d'
    by_cases e1 : a = a' <;> by_cases e2 : b = b' <;> by_cases e3 : c = c' <;> by_cases e4 : d = d' <;> simp_all [eq_comm]
  · rw [meetB_four, refB_four]
    simp only [rB, mB, Bool.and_eq_true, Bool.or_eq_true, decide_eq_true_eq]
    omega
  · rw [meetB_four, refB_four]
    simp only [rB, mB, Bool.and_eq_true, Bool.or_eq_true, decide_eq_true_eq]
    omega
  · rw [whN_four, whN_four, refB_four]
    simp only [Bool.and_eq_true]
    rintro ⟨h1, h2, h3, h4⟩
    have g1 := tw_ref h1
    have g2 := tw_ref h2
    have g3 := tw_ref h3
    have g4 := tw_ref h4
    have p1 := tw_two a
    have p2 := tw_two b
    have p3 := tw_two c
    have p4 := tw_two d
    have q1 := tw_two a'
    have q2 := tw_two b'
    have q3 := tw_two c'
    have q4 := tw_two d'
    generalize tw a = x1 at *
    generalize tw b = x2 at *
    generalize tw c = x3 at *
    generalize tw d = x4 at *
    generalize tw a' = y1 at *
    generalize tw b' = y2 at *
    generalize tw c' = y3 at *
    generalize tw d' = y4 at *
    have i0 : 0 ≤ x1 := by omega
    have i1 : 0 ≤ x1 * x2 := Int.mul_nonneg i0 (by omega)
    have i2 : 0 ≤ x1 * x2 * x3 := Int.mul_nonneg i1 (by omega)
    exact mul_up i2 (by omega) (mul_up i1 (by omega) (mul_up i0 (by omega) g1 g2) g3) g4
  · rw [cmpV_four, Bool.eq_iff_iff]
    simp only [decide_eq_true_eq, List.cons.injEq, and_true]
    have h1 := @numC_zero a a'
    have h2 := @numC_zero b b'
    have h3 := @numC_zero c c'
    have h4 := @numC_zero d d'
    by_cases e1 : a = a' <;> by_cases e2 : b = b' <;> by_cases e3 : c = c' <;> by_cases e4 : d = d' <;> simp_all
  · rw [refB_four, refB_four, Bool.eq_iff_iff]
    simp only [rB, decide_eq_true_eq, List.cons.injEq, and_true, Bool.and_eq_true, Bool.or_eq_true]
    omega
  · rw [cmpV_four]
    have h1 := numC_low a a'
    have h2 := numC_low b b'
    have h3 := numC_low c c'
    have h4 := numC_low d d'
    split
    · exact h1.1
    · split
      · exact h2.1
      · split
        · exact h3.1
        · split
          · exact h4.1
          · omega
  · rw [cmpV_four]
    have h1 := numC_low a a'
    have h2 := numC_low b b'
    have h3 := numC_low c c'
    have h4 := numC_low d d'
    split
    · exact h1.2
    · split
      · exact h2.2
      · split
        · exact h3.2
        · split
          · exact h4.2
          · omega
theorem read_text {l : List Int} (h : vok l = true) : readOk (textB l) = true ∧ readV (textB l) = l ∧ (textB l).length = 4 := by
  obtain ⟨a, b, c, d, rfl, ha, hb, hc, hd⟩ := vok_four h
  have ha' : a = -1 ∨ a = 0 ∨ a = 1 := by omega
  have hb' : b = -1 ∨ b = 0 ∨ b = 1 := by omega
  have hc' : c = -1 ∨ c = 0 ∨ c = 1 := by omega
  have hd' : d = -1 ∨ d = 0 ∨ d = 1 := by omega
  clear ha hb hc hd h
  rcases ha' with rfl | rfl | rfl <;> rcases hb' with rfl | rfl | rfl <;> rcases hc' with rfl | rfl | rfl <;> rcases hd' with rfl | rfl | rfl <;> decide
theorem let_num {c : UInt8} (h : isL c = true) : letB (numL c) = c := by
  simp only [isL, Bool.or_eq_true, decide_eq_true_eq] at h
  rcases h with (rfl | rfl) | rfl <;> decide
theorem text_read {l : List UInt8} (h : readOk l = true) : vok (readV l) = true ∧ textB (readV l) = l ∧ l.length = 4 := by
  have h0 := h
  simp only [readOk, Bool.and_eq_true, decide_eq_true_eq, List.all_eq_true] at h
  have hv : readV l = l.map numL := by simp [readV, h0]
  rw [hv]
  refine ⟨by rw [vok_numL]; simpa using h.2, ?_, h.2⟩
  rw [textB, List.map_map]
  conv => rhs; rw [← List.map_id l]
  exact List.map_congr_left fun c hc => let_num (h.1 c hc)
end Go.Proofs.YtmpoffepoafblaaGreat

