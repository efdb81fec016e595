/- VWh, VSame, VDrawD, MBox -/
import Derived.Test.YtmpoffepoafblaaGreatDecidesG03
import Derived.Test.YtmpoffepoafblaaGreatDecidesG01
import Derived.Test.YtmpoffepoafblaaGreatDecidesG04
import Derived.Test.YtmpoffepoafblaaGreatDecidesG05
/- Vectors: both Wholes. -/
namespace Go.Proofs.YtmpoffepoafblaaGreat
open Go.RowKit
def whN (l : List Int) : Int := l.foldl (fun n z => if z = -1 then 2 * n else n) 1
theorem whN_next {l : List Int} {k : Nat} (h : k < l.length) {z : Int} (hz : z = intAt l k) : whN (l.take (k + 1)) = if z = -1 then 2 * whN (l.take k) else whN (l.take k) := by
  have e : l.take (k + 1) = l.take k ++ [z] := by rw [List.take_add_one, hz]; simp [intAt, h]
  rw [e]; simp [whN]
theorem whN_low (l : List Int) : 1 ≤ whN l ∧ whN l ≤ 2 ^ l.length := by
  have : ∀ (l : List Int) (n : Int), 1 ≤ n → n ≤ l.foldl (fun n z => if z = -1 then 2 * n else n) n ∧ l.foldl (fun n z => if z = -1 then 2 * n else n) n ≤ n * 2 ^ l.length := by
    intro l
    induction l with
    | nil => intro n _; simp
    | cons z r ih =>
      intro n hn
      simp only [List.foldl_cons, List.length_cons, Int.pow_succ]
      have hp : (0 : Int) < 2 ^ r.length := Int.pow_pos (by omega)
      split
      · have := ih (2 * n) (by omega)
        rw [show n * (2 ^ r.length * 2) = 2 * n * 2 ^ r.length by rw [Int.mul_comm (2 ^ r.length) 2, ← Int.mul_assoc, Int.mul_comm n 2]]
        omega
      · have := ih n hn
        have h2 : n * 2 ^ r.length ≤ n * (2 ^ r.length * 2) := Int.mul_le_mul_of_nonneg_left (by omega) (by omega)
        omega
  have h := this l 1 (by omega)
  unfold whN; omega
theorem whN_small {l : List Int} {k : Nat} (hl : l.length = 4) (hk : k < 4) : 1 ≤ whN (l.take k) ∧ whN (l.take k) ≤ 8 := by
  have h := whN_low (l.take k)
  have e : (l.take k).length = k := by simp; omega
  rw [e] at h
  have hk4 : k = 0 ∨ k = 1 ∨ k = 2 ∨ k = 3 := by omega
  rcases hk4 with rfl | rfl | rfl | rfl <;> exact ⟨h.1, Int.le_trans h.2 (by decide)⟩
set_option maxRecDepth 100000 in
set_option maxHeartbeats 2000000 in
theorem wholes_any (a0 a1 a2 a3 : Int) (w : World) :
    Calls Tryz.prog 97 #[vec a0 a1 a2 a3] w fun e w' => e = .returned (.int .i64 (whN [a0, a1, a2, a3])) ∧ Below w.heap.size w w' := by
  have j0 : ∀ w : World, (Instr.index 107 (.agg #[.int .i64 a0, .int .i64 a1, .int .i64 a2, .int .i64 a3]) (.int .i64 0)).run Tryz.prog w = .ok (.int .i64 a0) w := fun _ => by kernel_rfl
  have j1 : ∀ w : World, (Instr.index 107 (.agg #[.int .i64 a0, .int .i64 a1, .int .i64 a2, .int .i64 a3]) (.int .i64 1)).run Tryz.prog w = .ok (.int .i64 a1) w := fun _ => by kernel_rfl
  have j2 : ∀ w : World, (Instr.index 107 (.agg #[.int .i64 a0, .int .i64 a1, .int .i64 a2, .int .i64 a3]) (.int .i64 2)).run Tryz.prog w = .ok (.int .i64 a2) w := fun _ => by kernel_rfl
  have j3 : ∀ w : World, (Instr.index 107 (.agg #[.int .i64 a0, .int .i64 a1, .int .i64 a2, .int .i64 a3]) (.int .i64 3)).run Tryz.prog w = .ok (.int .i64 a3) w := fun _ => by kernel_rfl
  have HB0 : Hid (Below w.heap.size w (w.alloc (cell4 a0 a1 a2 a3))) := (Below.refl _ w).alloc (Nat.le_refl _) _
  go_enter Tryz.func97, Tryz.ntmps97
  go_wp2
  generalize w.alloc (cell4 a0 a1 a2 a3) = W0 at HB0 ⊢
  go_loop [3, 7] (fun n i => ∃ (k : Nat) (N : Int), k ≤ 4 ∧ i = .int .i64 k ∧ n = .int .i64 N ∧ Hid (N = whN ([a0, a1, a2, a3].take k))) (fun _ i => 4 - (intOf i).toNat)
  case atStart => exact ⟨0, 1, by omega, rfl, rfl, rfl⟩
  case round =>
    obtain ⟨k, N, hk, rfl, rfl, HN⟩ := hrel
    have hk4 : k = 0 ∨ k = 1 ∨ k = 2 ∨ k = 3 ∨ k = 4 := by omega
    clear hk
    rcases hk4 with rfl | rfl | rfl | rfl | rfl
    · have HX : Hid (whN ([a0, a1, a2, a3].take (0 + 1)) = if a0 = -1 then 2 * N else N) := by have := whN_next (l := [a0, a1, a2, a3]) (k := 0) (by simp) (z := a0) rfl; rw [← HN.out] at this; exact this
      have hb := whN_small (l := [a0, a1, a2, a3]) (k := 0) rfl (by omega)
      rw [← HN.out] at hb
      have hN1 : 1 ≤ N := hb.1
      have hN2 : N ≤ 8 := hb.2
      clear hb HN
      by_cases e : a0 = -1
      · have HE : Hid (a0 = -1) := e
        have d : (a0 == (-1 : Int)) = true := by simp [e]
        clear e
        go_wp2
        go_round
        case rel => exact ⟨1, 2 * N, by omega, rfl, by go_num, by show _ = _; rw [HX.out, if_pos HE.out]⟩
        case measure => simp [intOf]
      · have HE : Hid (¬ a0 = -1) := e
        have d : (a0 == (-1 : Int)) = false := by simp [e]
        clear e
        go_wp2
        go_round
        case rel => exact ⟨1, N, by omega, rfl, rfl, by show _ = _; rw [HX.out, if_neg HE.out]⟩
        case measure => simp [intOf]
    · have HX : Hid (whN ([a0, a1, a2, a3].take (1 + 1)) = if a1 = -1 then 2 * N else N) := by have := whN_next (l := [a0, a1, a2, a3]) (k := 1) (by simp) (z := a1) rfl; rw [← HN.out] at this; exact this
      have hb := whN_small (l := [a0, a1, a2, a3]) (k := 1) rfl (by omega)
      rw [← HN.out] at hb
      have hN1 : 1 ≤ N := hb.1
      have hN2 : N ≤ 8 := hb.2
      clear hb HN
      by_cases e : a1 = -1
      · have HE : Hid (a1 = -1) := e
        have d : (a1 == (-1 : Int)) = true := by simp [e]
        clear e
        go_wp2
        go_round
        case rel => exact ⟨2, 2 * N, by omega, rfl, by go_num, by show _ = _; rw [HX.out, if_pos HE.out]⟩
        case measure => simp [intOf]
      · have HE : Hid (¬ a1 = -1) := e
        have d : (a1 == (-1 : Int)) = false := by simp [e]
        clear e
        go_wp2
        go_round
        case rel => exact ⟨2, N, by omega, rfl, rfl, by show _ = _; rw [HX.out, if_neg HE.out]⟩
        case measure => simp [intOf]
    · have HX : Hid (whN ([a0, a1, a2, a3].take (2 + 1)) = if a2 = -1 then 2 * N else N) := by have := whN_next (l := [a0, a1, a2, a3]) (k := 2) (by simp) (z := a2) rfl; rw [← HN.out] at this; exact this
      have hb := whN_small (l := [a0, a1, a2, a3]) (k := 2) rfl (by omega)
      rw [← HN.out] at hb
      have hN1 : 1 ≤ N := hb.1
      have hN2 : N ≤ 8 := hb.2
      clear hb HN
      by_cases e : a2 = -1
      · have HE : Hid (a2 = -1) := e
        have d : (a2 == (-1 : Int)) = true := by simp [e]
        clear e
        go_wp2
        go_round
        case rel => exact ⟨3, 2 * N, by omega, rfl, by go_num, by show _ = _; rw [HX.out, if_pos HE.out]⟩
        case measure => simp [intOf]
      · have HE : Hid (¬ a2 = -1) := e
        have d : (a2 == (-1 : Int)) = false := by simp [e]
        clear e
        go_wp2
        go_round
        case rel => exact ⟨3, N, by omega, rfl, rfl, by show _ = _; rw [HX.out, if_neg HE.out]⟩
        case measure => simp [intOf]
    · have HX : Hid (whN ([a0, a1, a2, a3].take (3 + 1)) = if a3 = -1 then 2 * N else N) := by have := whN_next (l := [a0, a1, a2, a3]) (k := 3) (by simp) (z := a3) rfl; rw [← HN.out] at this; exact this
      have hb := whN_small (l := [a0, a1, a2, a3]) (k := 3) rfl (by omega)
      rw [← HN.out] at hb
      have hN1 : 1 ≤ N := hb.1
      have hN2 : N ≤ 8 := hb.2
      clear hb HN
      by_cases e : a3 = -1
      · have HE : Hid (a3 = -1) := e
        have d : (a3 == (-1 : Int)) = true := by simp [e]
        clear e
        go_wp2
        go_round
        case rel => exact ⟨4, 2 * N, by omega, rfl, by go_num, by show _ = _; rw [HX.out, if_pos HE.out]⟩
        case measure => simp [intOf]
      · have HE : Hid (¬ a3 = -1) := e
        have d : (a3 == (-1 : Int)) = false := by simp [e]
        clear e
        go_wp2
        go_round
        case rel => exact ⟨4, N, by omega, rfl, rfl, by show _ = _; rw [HX.out, if_neg HE.out]⟩
        case measure => simp [intOf]
    · go_wp2
      go_ret
      exact ⟨ret_int HN.out, HB0.out⟩
set_option maxHeartbeats 1000000 in
theorem iWholes_any (x : Value) (l : List Int) (w : World) (hl : l.length ≤ 4611686018427387904) (h : IsI w x l) :
    Calls Tryz.prog 39 #[x] w fun e w' => e = .returned (.int .i64 (if vok l = true then whN l else 0)) ∧ Below w.heap.size w w' := by
  have H := of_any x l w hl h
  cases hv : vok l with
  | false =>
    rw [hv, vec_no hv] at H
    go_enter Tryz.func39, Tryz.ntmps39
    go_wp2_with fail
    refine H.mono ?_
    rintro e w1 ⟨rfl, hb1⟩
    go_wp2
    go_ret
    exact ⟨rfl, hb1.alloc hb1.size _⟩
  | true =>
    rw [hv] at H
    obtain ⟨a0, a1, a2, a3, rfl, _⟩ := vok_four hv
    rw [show vecOf [a0, a1, a2, a3] = vec a0 a1 a2 a3 by simp [vecOf, hv, intAt]] at H
    have M : Hid (∀ W, Calls Tryz.prog 97 #[vec a0 a1 a2 a3] W fun e w' => e = .returned (.int .i64 (whN [a0, a1, a2, a3])) ∧ Below W.heap.size W w') := fun W => wholes_any a0 a1 a2 a3 W
    go_enter Tryz.func39, Tryz.ntmps39
    go_wp2_with fail
    refine H.mono ?_
    rintro e w1 ⟨rfl, hb1⟩
    go_wp2_with fail
    refine (M.out _).mono ?_
    rintro e w2 ⟨rfl, hb2⟩
    have hz := hb1.size
    go_wp2
    go_ret
    exact ⟨rfl, (hb1.alloc hb1.size _).trans (hb2.mono (by simp; omega))⟩
end Go.Proofs.YtmpoffepoafblaaGreat

/- laws.sameInts: are two rows of numbers the same? -/
namespace Go.Proofs.YtmpoffepoafblaaGreat
open Go.RowKit
theorem ints_ext {l r : List Int} (hl : l.length = r.length) (h : ∀ j, j < l.length → intAt l j = intAt r j) : l = r := by
  refine List.ext_getElem hl fun j h1 h2 => ?_
  have := h j h1
  simpa [intAt, h1, h2] using this
theorem ints_no {l r : List Int} {j : Nat} (h : intAt l j ≠ intAt r j) : decide (l = r) = false := by
  simp only [decide_eq_false_iff_not]
  intro e
  exact h (by rw [e])
set_option maxRecDepth 100000 in
set_option maxHeartbeats 2000000 in
theorem sameI_any (x y : Value) (l r : List Int) (w : World) (hl : l.length ≤ 4611686018427387904) (hr : r.length ≤ 4611686018427387904) (hx : IsI w x l) (hy : IsI w y r) :
    Calls Tryz.prog 33 #[x, y] w fun e w' => e = .returned (.bool (decide (l = r))) ∧ Below w.heap.size w w' := by
  obtain ⟨a, cap, rfl, h1, h2, h⟩ := hx
  obtain ⟨a', cap', rfl, h1', h2', h'⟩ := hy
  clear h1 h2 h1' h2'
  by_cases hn : l.length = r.length
  · have HN : Hid (l.length = r.length) := hn
    rw [← hn]
    by_cases hz : l = []
    · subst hz
      have hz2 : r = [] := List.eq_nil_of_length_eq_zero (by simpa using hn.symm)
      subst hz2
      clear h h' hn HN
      go_enter Tryz.func33, Tryz.ntmps33
      go_wp2
      go_loop [5] (fun i => i = .int .i64 0) (fun _ => 0)
      case atStart => rfl
      case round =>
        subst hrel
        go_wp2
        go_ret
        exact ⟨by simp, Below.refl _ _⟩
    · obtain ⟨b, off, rfl, hb, hc⟩ := h.resolve_left hz
      obtain ⟨b', off', rfl, hb', hc'⟩ := h'.resolve_left (fun e => hz (by rw [e] at hn; exact List.eq_nil_of_length_eq_zero (by simpa using hn)))
      clear h h' hz hn
      go_enter Tryz.func33, Tryz.ntmps33
      go_wp2
      go_loopw [5] (fun i wr => ∃ k : Nat, k ≤ l.length ∧ i = .int .i64 k ∧ Below w.heap.size w wr ∧ Hid (∀ j, j < k → intAt l j = intAt r j)) (fun i _ => l.length - (intOf i).toNat)
      case atStart => exact ⟨0, Nat.zero_le _, rfl, Below.refl _ _, fun j hj => absurd hj (by omega)⟩
      case round =>
        obtain ⟨k, hk, rfl, hB, HS⟩ := hrel
        have HB : Hid (Below w.heap.size w wr) := hB
        by_cases hlt : k < l.length
        · have f0 := (hB.cell (p := ⟨b, off + k, none⟩) hb).trans (hc k hlt)
          have e0 := (hB.cell (p := ⟨b', off' + k, none⟩) hb').trans (hc' k (by have := HN.out; omega))
          obtain ⟨z, hz⟩ : ∃ z, intAt l k = z := ⟨_, rfl⟩
          obtain ⟨z', hz'⟩ : ∃ z, intAt r k = z := ⟨_, rfl⟩
          have HZ : Hid (intAt l k = z) := hz
          have HZ' : Hid (intAt r k = z') := hz'
          rw [hz] at f0
          rw [hz'] at e0
          clear hB hc hc' hz hz'
          by_cases hzz : z = z'
          · subst hzz
            go_wp2_with fail
            go_region_held3 (fun W => W.cell? ⟨b, off + k, none⟩ = some (.int .i64 z) ∧ W.cell? ⟨b', off' + k, none⟩ = some (.int .i64 z)) ((repeat' apply And.intro) <;> go_keep) (fail)
            go_wp2
            go_roundw
            case rel =>
              refine ⟨k + 1, by omega, by go_num, HB.out.drew, fun j hj => ?_⟩
              by_cases hjk : j < k
              · exact HS.out j hjk
              · obtain rfl : k = j := by omega
                exact HZ.out.trans HZ'.out.symm
            case measure => simp [intOf]; omega
          · have HD : Hid (decide (l = r) = false) := ints_no (j := k) (by rw [HZ.out, HZ'.out]; exact hzz)
            have hq : (z != z') = true := by simp [hzz]
            go_wp2_with fail
            go_region_held3 (fun W => W.cell? ⟨b, off + k, none⟩ = some (.int .i64 z) ∧ W.cell? ⟨b', off' + k, none⟩ = some (.int .i64 z')) ((repeat' apply And.intro) <;> go_keep) (fail)
            go_wp2
            go_ret
            exact ⟨congrArg (fun b => Ending.returned (.bool b)) HD.out.symm, HB.out.drew⟩
        · have HD : Hid (decide (l = r) = true) := by
            show decide (l = r) = true
            have hkl : k = l.length := by omega
            rw [hkl] at HS
            simp only [decide_eq_true_eq]
            exact ints_ext HN.out HS.out
          clear hB hc hc'
          go_wp2
          go_ret
          exact ⟨congrArg (fun b => Ending.returned (.bool b)) HD.out.symm, HB.out⟩
  · have hd : decide (l = r) = false := by
      simp only [decide_eq_false_iff_not]
      intro e
      exact hn (by rw [e])
    rw [hd]
    clear h h' hd
    have hq : ((l.length : Int) != (r.length : Int)) = true := by simp; omega
    go_enter Tryz.func33, Tryz.ntmps33
    go_wp2
    go_ret
    exact ⟨rfl, Below.refl _ _⟩
end Go.Proofs.YtmpoffepoafblaaGreat

/- Drawn decisions. -/
namespace Go.Proofs.YtmpoffepoafblaaGreat
open Go.RowKit
set_option maxRecDepth 100000 in
set_option maxHeartbeats 2000000 in
theorem drawDec_any (a : Option Addr) (n cap : Nat) (w : World) (hn : n ≤ 281474976710656) (hC : CodeIn w w.heap.size a n) :
    Calls Tryz.prog 40 #[.slice a n cap] w fun e w' => ∃ (u : Value) (l : List Int) (d v : Int), e = .returned (.tuple #[u, .int .i64 d, .int .i64 v]) ∧ l.length = 4 ∧ OwnI w.heap.size w' u l ∧ -1 ≤ v ∧ v ≤ 2 ∧ Below w.heap.size w w' := by
  have HC : Hid (CodeIn w w.heap.size a n) := hC
  clear hC
  go_enter Tryz.func40, Tryz.ntmps40
  go_wp2_with fail
  refine (new_any a n cap _ hn HC.out).mono ?_
  rintro e w1 ⟨c, rfl, hcw, hC1, hB1⟩
  have HC1 : Hid (Cur w1 c) := hC1
  have HB1 : Hid (Below w.heap.size w w1) := hB1
  have hc1 : c < w1.heap.size := hC1.lt
  clear hC1 hB1 HC
  go_wp2_with fail
  refine (l3_any c _ HC1.out).mono ?_
  rintro e w2 ⟨u, l, rfl, hl, hO2, hC2, hT2⟩
  have HL : Hid (l.length = 4) := hl
  have HO2 : Hid (OwnI w1.heap.size w2 u l) := hO2
  have HC2 : Hid (Cur w2 c) := hC2
  have HT2 : Hid (Turns (fun k => k = c) w1 w2) := hT2
  clear hl hO2 hC2 hT2 HC1
  go_wp2_with fail
  refine (below_any c _ _ HC2.out).mono ?_
  rintro e w3 ⟨x, rfl, hx0, hx1, hC3, hT3⟩
  have hx2 := hx1 (by omega)
  have HC3 : Hid (Cur w3 c) := hC3
  have HO3 : Hid (OwnI w1.heap.size w3 u l) := HO2.out.turns hT3 hc1
  have HT3 : Hid (Turns (fun k => k = c) w1 w3) := HT2.out.trans hT3
  clear hx1 hC3 hT3 HC2 HO2 HT2
  go_wp2_with fail
  refine (below_any c _ _ HC3.out).mono ?_
  rintro e w4 ⟨y, rfl, hy0, hy1, hC4, hT4⟩
  have hy2 := hy1 (by omega)
  have HO4 : Hid (OwnI w1.heap.size w4 u l) := HO3.out.turns hT4 hc1
  have HT4 : Hid (Turns (fun k => k = c) w1 w4) := HT3.out.trans hT4
  have hzw : w.heap.size ≤ w1.heap.size := HB1.out.size
  have HB4 : Hid (Below w.heap.size w w4) := HB1.out.trans (HT4.out.to_below (fun k hk => by omega) hzw)
  clear hy1 hC4 hT4 HC3 HO3 HT3 HT4
  go_wp2
  refine bodyPost_ret (v := .tuple #[u, .int .i64 (x - 1), .int .i64 (y - 1)]) (by simp [results, Tryz.results40, go_sem]) rfl ?_
  exact ⟨u, l, x - 1, y - 1, rfl, HL.out, HO4.out.mono hzw, by omega, by omega, HB4.out⟩
theorem decF_set {l : List Int} {d v : Int} (h : decF l d v = true) : vok l = true ∧ 0 ≤ d ∧ d ≤ 3 ∧ 0 ≤ v ∧ v ≤ 1 ∧ intAt l d.toNat = -1 ∧ decR l d v = l.set d.toNat v := by
  simp only [decF, Bool.and_eq_true, decide_eq_true_eq] at h
  have h2 := decB_iff.1 h.1
  exact ⟨h2.1, h2.2.1, h2.2.2.1, h2.2.2.2.1, h2.2.2.2.2, h.2, by simp [decR, h.1, h.2]⟩
theorem decF_other {l : List Int} {d v : Int} (h : decF l d v = true) : decF l d (1 - v) = true := by
  obtain ⟨h1, h2, h3, h4, h5, h6, _⟩ := decF_set h
  simp only [decF, Bool.and_eq_true, decide_eq_true_eq]
  exact ⟨decB_iff.2 ⟨h1, h2, h3, by omega, by omega⟩, h6⟩
theorem dec_facts {l : List Int} {d v : Int} (h : decF l d v = true) :
    (vok (decR l d v) && vok (decR l d (1 - v)) && meetB (decR l d v) (decR l d (1 - v))) = false ∧ (vok (decR l d v) && vok l && refB (decR l d v) l) = true ∧
    (if vok (decR l d v) = true then whN (decR l d v) else 0) * 2 = (if vok l = true then whN l else 0) ∧ 1 ≤ (if vok (decR l d v) = true then whN (decR l d v) else 0) ∧ (if vok (decR l d v) = true then whN (decR l d v) else 0) ≤ 16 := by
  have h' := decF_set (decF_other h)
  obtain ⟨h1, h2, h3, h4, h5, h6, h7⟩ := decF_set h
  rw [h7, h'.2.2.2.2.2.2]
  obtain ⟨k, hk⟩ : ∃ k : Nat, d.toNat = k := ⟨_, rfl⟩
  have hk3 : k < 4 := by omega
  rw [hk] at h6 ⊢
  clear h h' h7 h2 h3 hk
  obtain ⟨a, b, c, e, rfl, ha, hb, hc, he⟩ := vok_four h1
  have hv : v = 0 ∨ v = 1 := by omega
  have hk4 : k = 0 ∨ k = 1 ∨ k = 2 ∨ k = 3 := by omega
  have ha' : a = -1 ∨ a = 0 ∨ a = 1 := by omega
  have hb' : b = -1 ∨ b = 0 ∨ b = 1 := by omega
  have hc' : c = -1 ∨ c = 0 ∨ c = 1 := by omega
  have he' : e = -1 ∨ e = 0 ∨ e = 1 := by omega
  clear ha hb hc he h1 h4 h5 hk3
  revert h6
  rcases hv with rfl | rfl <;> rcases hk4 with rfl | rfl | rfl | rfl <;> rcases ha' with rfl | rfl | rfl <;> rcases hb' with rfl | rfl | rfl <;> rcases hc' with rfl | rfl | rfl <;> rcases he' with rfl | rfl | rfl <;> decide
theorem dec_no_same {l : List Int} {d v : Int} (h : decF l d v = false) : decR l d v = [] ∨ decR l d v = l := by
  unfold decF at h
  unfold decR
  by_cases h1 : decB l d v = true
  · simp only [h1, Bool.true_and, decide_eq_false_iff_not] at h
    simp [h1, h]
  · simp [h1]
end Go.Proofs.YtmpoffepoafblaaGreat

/- A struct in a block of its own. -/
namespace Go.Proofs.YtmpoffepoafblaaGreat
open Go.RowKit
/- Block P holds just the cells vs. -/
def Bk (w : World) (P : Nat) (T : TypeId) (vs : Array Value) : Prop := w.heap[P]? = some (.cells vs T)
theorem Bk.lt {w : World} {P : Nat} {T : TypeId} {vs : Array Value} (h : Bk w P T vs) : P < w.heap.size := (Array.getElem?_eq_some_iff.1 h).1
theorem Bk.cell {w : World} {P : Nat} {T : TypeId} {vs : Array Value} (h : Bk w P T vs) {i : Nat} {v : Value} (hv : vs[i]? = some v) : w.cell? ⟨P, i, none⟩ = some v := by
  have h' : w.heap[P]? = some (.cells vs T) := h
  unfold World.cell?
  simp [h', hv]
theorem Bk.free {w : World} {P : Nat} {T : TypeId} {vs : Array Value} (h : Bk w P T vs) (o : Nat) : w.frozen? ⟨P, o, none⟩ = false := by
  have h' : w.heap[P]? = some (.cells vs T) := h
  unfold World.frozen?
  simp [h']
theorem Bk.keep {w w' : World} {B P : Nat} {T : TypeId} {vs : Array Value} (h : Bk w P T vs) (hb : Below B w w') (hB : P < B) : Bk w' P T vs := (hb.block P hB).trans h
theorem Bk.below {w w' : World} {P : Nat} {T : TypeId} {vs : Array Value} (h : Bk w P T vs) (hb : Below w.heap.size w w') : Bk w' P T vs := h.keep hb h.lt
theorem Bk.turns {S : Nat → Prop} {w w' : World} {P : Nat} {T : TypeId} {vs : Array Value} (h : Bk w P T vs) (ht : Turns S w w') (hS : ¬ S P) : Bk w' P T vs := (ht.block P h.lt hS).trans h
theorem Bk.drew {w : World} {P : Nat} {T : TypeId} {vs : Array Value} (h : Bk w P T vs) : Bk w.drew P T vs := h
theorem Bk.new (w : World) (T : TypeId) (vs : Array Value) : Bk (w.alloc (.cells vs T)) w.heap.size T vs := by
  show (w.heap.push _)[w.heap.size]? = _
  simp
theorem Bk.newAt {w : World} {P : Nat} (hP : P = w.heap.size) (T : TypeId) (vs : Array Value) : Bk (w.alloc (.cells vs T)) P T vs := hP ▸ Bk.new w T vs
theorem Bk.alloc {w : World} {P : Nat} {T : TypeId} {vs : Array Value} (h : Bk w P T vs) (o : Obj) : Bk (w.alloc o) P T vs := h.keep ((Below.refl w.heap.size w).alloc (Nat.le_refl _) o) h.lt
theorem Bk.put {w : World} {P : Nat} {T : TypeId} {vs : Array Value} (h : Bk w P T vs) (i : Nat) (v : Value) : Bk (w.setCell ⟨P, i, none⟩ v) P T (vs.setIfInBounds i v) := by
  have h' : w.heap[P]? = some (.cells vs T) := h
  obtain ⟨hl, hv⟩ := Array.getElem?_eq_some_iff.1 h'
  unfold Bk
  simp [World.setCell, hl, Array.getElem_modify, hv]
theorem Bk.other {w : World} {P b : Nat} {T : TypeId} {vs : Array Value} (h : Bk w P T vs) (i : Nat) (v : Value) (hb : P ≠ b) : Bk (w.setCell ⟨b, i, none⟩ v) P T vs :=
  (Below.heap_setCell _ _ _ _ hb).trans h
theorem put1_turns (w : World) (g o : Nat) (u : Value) : Turns (fun b => b = g) w (w.setCell ⟨g, o, none⟩ u) := (Turns.refl (fun b => b = g) w).setCell (p := ⟨g, o, none⟩) rfl _
abbrev put6 (w : World) (R : Nat) (v0 v1 v2 v3 v4 v5 : Value) : World :=
  (((((w.setCell ⟨R, 0, none⟩ v0).setCell ⟨R, 1, none⟩ v1).setCell ⟨R, 2, none⟩ v2).setCell ⟨R, 3, none⟩ v3).setCell ⟨R, 4, none⟩ v4).setCell ⟨R, 5, none⟩ v5
theorem Bk.put6 {w : World} {R : Nat} {T : TypeId} {a0 a1 a2 a3 a4 a5 : Value} (h : Bk w R T #[a0, a1, a2, a3, a4, a5]) (v0 v1 v2 v3 v4 v5 : Value) : Bk (put6 w R v0 v1 v2 v3 v4 v5) R T #[v0, v1, v2, v3, v4, v5] :=
  (((((h.put 0 v0).put 1 v1).put 2 v2).put 3 v3).put 4 v4).put 5 v5
theorem put6_turns (w : World) (R : Nat) (v0 v1 v2 v3 v4 v5 : Value) : Turns (fun b => b = R) w (put6 w R v0 v1 v2 v3 v4 v5) :=
  (((((put1_turns w R 0 v0).trans (put1_turns _ R 1 v1)).trans (put1_turns _ R 2 v2)).trans (put1_turns _ R 3 v3)).trans (put1_turns _ R 4 v4)).trans (put1_turns _ R 5 v5)
end Go.Proofs.YtmpoffepoafblaaGreat

