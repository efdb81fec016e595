/- VOf, VFnOk, VOpen -/
import Derived.Test.YtofbholpggkjcaaExactVectorOkG00
import Derived.ProofKit
import Derived.ChangeOld
import Derived.OpenShut
import Derived.SizedLaws
/- Vectors: the program's vectorOf. -/
namespace Go.Proofs.Ytofbholpggkjcaa
open Go.RowKit
abbrev i64 (z : Int) : Value := .int .i64 z
abbrev vec (a b c d : Int) : Value := .agg #[i64 a, i64 b, i64 c, i64 d]
abbrev cell4 (a b c d : Int) : Obj := .cells #[i64 a, i64 b, i64 c, i64 d] 37
/- What vectorOf hands back for a list. -/
def vecOf (l : List Int) : Value := if vok l = true then vec (intAt l 0) (intAt l 1) (intAt l 2) (intAt l 3) else vec 0 0 0 0

theorem decOk {z : Int} (h0 : -1 ≤ z) (h1 : z ≤ 1) : (decide (-1 ≤ z) && decide (z ≤ 1)) = true := by simp [h0, h1]
theorem decNo {z : Int} (h : z < -1 ∨ 1 < z) : (decide (-1 ≤ z) && decide (z ≤ 1)) = false := by
  rw [Bool.and_eq_false_iff]; simp; omega

set_option maxHeartbeats 1000000 in
theorem of_at0 (b off cap : Nat) (x0 : Int) (w : World) (hb : b < w.heap.size) (h0 : w.cell? ⟨b, off, none⟩ = some (.int .i64 x0)) (d0 : (decide (-1 ≤ x0) && decide (x0 ≤ 1)) = false) :
    Calls Try.prog 29 #[.slice (some ⟨b, off, none⟩) 4 cap] w fun e w' => e = .returned (.tuple #[vec 0 0 0 0, .bool false]) ∧ Below w.heap.size w w' := by
  go_enter Try.func29, Try.ntmps29
  go_wp2
  go_loopw [13] (fun i wr => (i = .int .i64 0 ∧ wr = (w.alloc (cell4 0 0 0 0)).alloc (cell4 0 0 0 0))) (fun i _ => 4 - (intOf i).toNat)
  case atStart => exact ⟨rfl, rfl⟩
  case round =>
    rcases hrel with ⟨rfl, rfl⟩
    · go_wp2_with (go_at_call 40; refine (within_any x0 _ _ _).mono ?_; rintro e w' ⟨rfl, rfl⟩; rw [d0])
      exact bodyPost_ret (v := .tuple #[vec 0 0 0 0, .bool false]) (by simp [results, Try.results29, go_sem]) rfl ⟨rfl, ((Below.refl _ w).alloc (Nat.le_refl _) _).alloc (by simp) _⟩

set_option maxHeartbeats 1000000 in
theorem of_at1 (b off cap : Nat) (x0 x1 : Int) (w : World) (hb : b < w.heap.size) (h0 : w.cell? ⟨b, off, none⟩ = some (.int .i64 x0)) (h1 : w.cell? ⟨b, off + 1, none⟩ = some (.int .i64 x1)) (d0 : (decide (-1 ≤ x0) && decide (x0 ≤ 1)) = true) (d1 : (decide (-1 ≤ x1) && decide (x1 ≤ 1)) = false) :
    Calls Try.prog 29 #[.slice (some ⟨b, off, none⟩) 4 cap] w fun e w' => e = .returned (.tuple #[vec 0 0 0 0, .bool false]) ∧ Below w.heap.size w w' := by
  go_enter Try.func29, Try.ntmps29
  go_wp2
  go_loopw [13] (fun i wr => (i = .int .i64 0 ∧ wr = (w.alloc (cell4 0 0 0 0)).alloc (cell4 0 0 0 0)) ∨ (i = .int .i64 1 ∧ wr = (w.alloc (cell4 0 0 0 0)).alloc (cell4 x0 0 0 0))) (fun i _ => 4 - (intOf i).toNat)
  case atStart => exact .inl ⟨rfl, rfl⟩
  case round =>
    rcases hrel with ⟨rfl, rfl⟩ | ⟨rfl, rfl⟩
    · go_wp2_with (go_at_call 40; refine (within_any x0 _ _ _).mono ?_; rintro e w' ⟨rfl, rfl⟩; rw [d0])
      go_roundw
      case rel => exact .inr (⟨rfl, trivial⟩)
      case measure => simp [intOf]
    · go_wp2_with (go_at_call 40; refine (within_any x1 _ _ _).mono ?_; rintro e w' ⟨rfl, rfl⟩; rw [d1])
      exact bodyPost_ret (v := .tuple #[vec 0 0 0 0, .bool false]) (by simp [results, Try.results29, go_sem]) rfl ⟨rfl, ((Below.refl _ w).alloc (Nat.le_refl _) _).alloc (by simp) _⟩

set_option maxHeartbeats 1000000 in
theorem of_at2 (b off cap : Nat) (x0 x1 x2 : Int) (w : World) (hb : b < w.heap.size) (h0 : w.cell? ⟨b, off, none⟩ = some (.int .i64 x0)) (h1 : w.cell? ⟨b, off + 1, none⟩ = some (.int .i64 x1)) (h2 : w.cell? ⟨b, off + 2, none⟩ = some (.int .i64 x2)) (d0 : (decide (-1 ≤ x0) && decide (x0 ≤ 1)) = true) (d1 : (decide (-1 ≤ x1) && decide (x1 ≤ 1)) = true) (d2 : (decide (-1 ≤ x2) && decide (x2 ≤ 1)) = false) :
    Calls Try.prog 29 #[.slice (some ⟨b, off, none⟩) 4 cap] w fun e w' => e = .returned (.tuple #[vec 0 0 0 0, .bool false]) ∧ Below w.heap.size w w' := by
  go_enter Try.func29, Try.ntmps29
  go_wp2
  go_loopw [13] (fun i wr => (i = .int .i64 0 ∧ wr = (w.alloc (cell4 0 0 0 0)).alloc (cell4 0 0 0 0)) ∨ (i = .int .i64 1 ∧ wr = (w.alloc (cell4 0 0 0 0)).alloc (cell4 x0 0 0 0)) ∨ (i = .int .i64 2 ∧ wr = (w.alloc (cell4 0 0 0 0)).alloc (cell4 x0 x1 0 0))) (fun i _ => 4 - (intOf i).toNat)
  case atStart => exact .inl ⟨rfl, rfl⟩
  case round =>
    rcases hrel with ⟨rfl, rfl⟩ | ⟨rfl, rfl⟩ | ⟨rfl, rfl⟩
    · go_wp2_with (go_at_call 40; refine (within_any x0 _ _ _).mono ?_; rintro e w' ⟨rfl, rfl⟩; rw [d0])
      go_roundw
      case rel => exact .inr (.inl ⟨rfl, trivial⟩)
      case measure => simp [intOf]
    · go_wp2_with (go_at_call 40; refine (within_any x1 _ _ _).mono ?_; rintro e w' ⟨rfl, rfl⟩; rw [d1])
      go_roundw
      case rel => exact .inr (.inr (⟨rfl, trivial⟩))
      case measure => simp [intOf]
    · go_wp2_with (go_at_call 40; refine (within_any x2 _ _ _).mono ?_; rintro e w' ⟨rfl, rfl⟩; rw [d2])
      exact bodyPost_ret (v := .tuple #[vec 0 0 0 0, .bool false]) (by simp [results, Try.results29, go_sem]) rfl ⟨rfl, ((Below.refl _ w).alloc (Nat.le_refl _) _).alloc (by simp) _⟩

set_option maxHeartbeats 1000000 in
theorem of_at3 (b off cap : Nat) (x0 x1 x2 x3 : Int) (w : World) (hb : b < w.heap.size) (h0 : w.cell? ⟨b, off, none⟩ = some (.int .i64 x0)) (h1 : w.cell? ⟨b, off + 1, none⟩ = some (.int .i64 x1)) (h2 : w.cell? ⟨b, off + 2, none⟩ = some (.int .i64 x2)) (h3 : w.cell? ⟨b, off + 3, none⟩ = some (.int .i64 x3)) (d0 : (decide (-1 ≤ x0) && decide (x0 ≤ 1)) = true) (d1 : (decide (-1 ≤ x1) && decide (x1 ≤ 1)) = true) (d2 : (decide (-1 ≤ x2) && decide (x2 ≤ 1)) = true) (d3 : (decide (-1 ≤ x3) && decide (x3 ≤ 1)) = false) :
    Calls Try.prog 29 #[.slice (some ⟨b, off, none⟩) 4 cap] w fun e w' => e = .returned (.tuple #[vec 0 0 0 0, .bool false]) ∧ Below w.heap.size w w' := by
  go_enter Try.func29, Try.ntmps29
  go_wp2
  go_loopw [13] (fun i wr => (i = .int .i64 0 ∧ wr = (w.alloc (cell4 0 0 0 0)).alloc (cell4 0 0 0 0)) ∨ (i = .int .i64 1 ∧ wr = (w.alloc (cell4 0 0 0 0)).alloc (cell4 x0 0 0 0)) ∨ (i = .int .i64 2 ∧ wr = (w.alloc (cell4 0 0 0 0)).alloc (cell4 x0 x1 0 0)) ∨ (i = .int .i64 3 ∧ wr = (w.alloc (cell4 0 0 0 0)).alloc (cell4 x0 x1 x2 0))) (fun i _ => 4 - (intOf i).toNat)
  case atStart => exact .inl ⟨rfl, rfl⟩
  case round =>
    rcases hrel with ⟨rfl, rfl⟩ | ⟨rfl, rfl⟩ | ⟨rfl, rfl⟩ | ⟨rfl, rfl⟩
    · go_wp2_with (go_at_call 40; refine (within_any x0 _ _ _).mono ?_; rintro e w' ⟨rfl, rfl⟩; rw [d0])
      go_roundw
      case rel => exact .inr (.inl ⟨rfl, trivial⟩)
      case measure => simp [intOf]
    · go_wp2_with (go_at_call 40; refine (within_any x1 _ _ _).mono ?_; rintro e w' ⟨rfl, rfl⟩; rw [d1])
      go_roundw
      case rel => exact .inr (.inr (.inl ⟨rfl, trivial⟩))
      case measure => simp [intOf]
    · go_wp2_with (go_at_call 40; refine (within_any x2 _ _ _).mono ?_; rintro e w' ⟨rfl, rfl⟩; rw [d2])
      go_roundw
      case rel => exact .inr (.inr (.inr (⟨rfl, trivial⟩)))
      case measure => simp [intOf]
    · go_wp2_with (go_at_call 40; refine (within_any x3 _ _ _).mono ?_; rintro e w' ⟨rfl, rfl⟩; rw [d3])
      exact bodyPost_ret (v := .tuple #[vec 0 0 0 0, .bool false]) (by simp [results, Try.results29, go_sem]) rfl ⟨rfl, ((Below.refl _ w).alloc (Nat.le_refl _) _).alloc (by simp) _⟩

set_option maxHeartbeats 1000000 in
theorem of_at4 (b off cap : Nat) (x0 x1 x2 x3 : Int) (w : World) (hb : b < w.heap.size) (h0 : w.cell? ⟨b, off, none⟩ = some (.int .i64 x0)) (h1 : w.cell? ⟨b, off + 1, none⟩ = some (.int .i64 x1)) (h2 : w.cell? ⟨b, off + 2, none⟩ = some (.int .i64 x2)) (h3 : w.cell? ⟨b, off + 3, none⟩ = some (.int .i64 x3)) (d0 : (decide (-1 ≤ x0) && decide (x0 ≤ 1)) = true) (d1 : (decide (-1 ≤ x1) && decide (x1 ≤ 1)) = true) (d2 : (decide (-1 ≤ x2) && decide (x2 ≤ 1)) = true) (d3 : (decide (-1 ≤ x3) && decide (x3 ≤ 1)) = true) :
    Calls Try.prog 29 #[.slice (some ⟨b, off, none⟩) 4 cap] w fun e w' => e = .returned (.tuple #[vec x0 x1 x2 x3, .bool true]) ∧ Below w.heap.size w w' := by
  go_enter Try.func29, Try.ntmps29
  go_wp2
  go_loopw [13] (fun i wr => (i = .int .i64 0 ∧ wr = (w.alloc (cell4 0 0 0 0)).alloc (cell4 0 0 0 0)) ∨ (i = .int .i64 1 ∧ wr = (w.alloc (cell4 0 0 0 0)).alloc (cell4 x0 0 0 0)) ∨ (i = .int .i64 2 ∧ wr = (w.alloc (cell4 0 0 0 0)).alloc (cell4 x0 x1 0 0)) ∨ (i = .int .i64 3 ∧ wr = (w.alloc (cell4 0 0 0 0)).alloc (cell4 x0 x1 x2 0)) ∨ (i = .int .i64 4 ∧ wr = (w.alloc (cell4 0 0 0 0)).alloc (cell4 x0 x1 x2 x3))) (fun i _ => 4 - (intOf i).toNat)
  case atStart => exact .inl ⟨rfl, rfl⟩
  case round =>
    rcases hrel with ⟨rfl, rfl⟩ | ⟨rfl, rfl⟩ | ⟨rfl, rfl⟩ | ⟨rfl, rfl⟩ | ⟨rfl, rfl⟩
    · go_wp2_with (go_at_call 40; refine (within_any x0 _ _ _).mono ?_; rintro e w' ⟨rfl, rfl⟩; rw [d0])
      go_roundw
      case rel => exact .inr (.inl ⟨rfl, trivial⟩)
      case measure => simp [intOf]
    · go_wp2_with (go_at_call 40; refine (within_any x1 _ _ _).mono ?_; rintro e w' ⟨rfl, rfl⟩; rw [d1])
      go_roundw
      case rel => exact .inr (.inr (.inl ⟨rfl, trivial⟩))
      case measure => simp [intOf]
    · go_wp2_with (go_at_call 40; refine (within_any x2 _ _ _).mono ?_; rintro e w' ⟨rfl, rfl⟩; rw [d2])
      go_roundw
      case rel => exact .inr (.inr (.inr (.inl ⟨rfl, trivial⟩)))
      case measure => simp [intOf]
    · go_wp2_with (go_at_call 40; refine (within_any x3 _ _ _).mono ?_; rintro e w' ⟨rfl, rfl⟩; rw [d3])
      go_roundw
      case rel => exact .inr (.inr (.inr (.inr (⟨rfl, trivial⟩))))
      case measure => simp [intOf]
    · go_wp2
      exact bodyPost_ret (v := .tuple #[vec x0 x1 x2 x3, .bool true]) (by simp [results, Try.results29, go_sem]) rfl ⟨rfl, ((Below.refl _ w).alloc (Nat.le_refl _) _).alloc (by simp) _⟩

set_option maxHeartbeats 1000000 in
theorem of_long (a : Option Addr) (n cap : Nat) (w : World) (_hn : n ≤ 4611686018427387904) (h4 : ¬ (n : Int) = 4) :
    Calls Try.prog 29 #[.slice a n cap] w fun e w' => e = .returned (.tuple #[vec 0 0 0 0, .bool false]) ∧ Below w.heap.size w w' := by
  go_enter Try.func29, Try.ntmps29
  go_wp2
  exact bodyPost_ret (v := .tuple #[vec 0 0 0 0, .bool false]) (by simp [results, Try.results29, go_sem]) rfl ⟨rfl, (Below.refl _ w).alloc (Nat.le_refl _) _⟩

theorem vec_no {l : List Int} (h : vok l = false) : vecOf l = vec 0 0 0 0 := by simp [vecOf, h]
theorem of_any (x : Value) (l : List Int) (w : World) (hl : l.length ≤ 4611686018427387904) (h : IsI w x l) :
    Calls Try.prog 29 #[x] w fun e w' => e = .returned (.tuple #[vecOf l, .bool (vok l)]) ∧ Below w.heap.size w w' := by
  obtain ⟨a, cap, rfl, h1, h2, h⟩ := h
  by_cases h4 : l.length = 4
  · obtain ⟨b, off, rfl, hb, hc⟩ := h.resolve_left (by rintro rfl; simp at h4)
    have c0 := hc 0 (by omega)
    have c1 := hc 1 (by omega)
    have c2 := hc 2 (by omega)
    have c3 := hc 3 (by omega)
    rw [Nat.add_zero] at c0
    have no : ∀ k, k < 4 → (intAt l k < -1 ∨ 1 < intAt l k) → Ending.returned (.tuple #[vec 0 0 0 0, .bool false]) = .returned (.tuple #[vecOf l, .bool (vok l)]) := fun k hk hb => by
      have hv := vok_no (l := l) (k := k) (by omega) hb
      rw [vec_no hv, hv]
    rw [h4]
    by_cases e0 : intAt l 0 < -1 ∨ 1 < intAt l 0
    · exact (of_at0 b off cap _ w hb c0 (decNo e0)).mono fun e w' ⟨h, k⟩ => ⟨h.trans (no 0 (by omega) e0), k⟩
    by_cases e1 : intAt l 1 < -1 ∨ 1 < intAt l 1
    · exact (of_at1 b off cap _ _ w hb c0 c1 (decOk (by omega) (by omega)) (decNo e1)).mono fun e w' ⟨h, k⟩ => ⟨h.trans (no 1 (by omega) e1), k⟩
    by_cases e2 : intAt l 2 < -1 ∨ 1 < intAt l 2
    · exact (of_at2 b off cap _ _ _ w hb c0 c1 c2 (decOk (by omega) (by omega)) (decOk (by omega) (by omega)) (decNo e2)).mono fun e w' ⟨h, k⟩ => ⟨h.trans (no 2 (by omega) e2), k⟩
    by_cases e3 : intAt l 3 < -1 ∨ 1 < intAt l 3
    · exact (of_at3 b off cap _ _ _ _ w hb c0 c1 c2 c3 (decOk (by omega) (by omega)) (decOk (by omega) (by omega)) (decOk (by omega) (by omega)) (decNo e3)).mono fun e w' ⟨h, k⟩ => ⟨h.trans (no 3 (by omega) e3), k⟩
    have hv : vok l = true := by
      rw [vok_all (fun j hj => by
        have hj4 : j = 0 ∨ j = 1 ∨ j = 2 ∨ j = 3 := by omega
        rcases hj4 with rfl | rfl | rfl | rfl <;> omega)]
      simp [h4]
    refine (of_at4 b off cap _ _ _ _ w hb c0 c1 c2 c3 (decOk (by omega) (by omega)) (decOk (by omega) (by omega)) (decOk (by omega) (by omega)) (decOk (by omega) (by omega))).mono fun e w' ⟨h, k⟩ => ⟨h.trans ?_, k⟩
    simp [vecOf, hv]
  · have hv : vok l = false := by simp [vok, h4]
    refine (of_long a l.length cap w hl (by omega)).mono fun e w' ⟨h, k⟩ => ⟨h.trans ?_, k⟩
    rw [vec_no hv, hv]
end Go.Proofs.Ytofbholpggkjcaa

/- Vectors: the program's VectorOk. -/
namespace Go.Proofs.Ytofbholpggkjcaa
open Go.RowKit
set_option maxHeartbeats 400000 in
theorem iVok_any (x : Value) (l : List Int) (w : World) (hl : l.length ≤ 4611686018427387904) (h : IsI w x l) :
    Calls Try.prog 11 #[x] w fun e w' => e = .returned (.bool (vok l)) ∧ Below w.heap.size w w' := by
  have H := of_any x l w hl h
  generalize vok l = b at H ⊢
  unfold vecOf at H
  split at H
  all_goals
    go_enter Try.func11, Try.ntmps11
    go_wp2_with (go_at_call 29; refine H.mono ?_; rintro e w1 ⟨rfl, hb⟩)
    go_ret
    exact ⟨rfl, hb.alloc hb.size _⟩
end Go.Proofs.Ytofbholpggkjcaa

/- How a list of numbers that came in is read. -/
namespace Go.Proofs.Ytofbholpggkjcaa
open Go.ChangeShapes Go.WideShapes Go.ChangeAt Go.RowKit

theorem own : ownKnob Try.prog.godebug = none := by kernel_rfl
theorem laidOut : laidOutB Try.prog = true := by kernel_rfl
theorem cells3 : Try.prog.cellsOf 3 = 1 := by kernel_rfl
theorem add_plain (b off n : Nat) : (⟨b, off, none⟩ : Addr).add n = ⟨b, off + n, none⟩ := by
  unfold Addr.add
  split <;> simp_all
theorem ints_list {w : World} {b off : Nat} : ∀ n, (∀ i, i < n → ∃ z : Int, w.cell? ⟨b, off + i, none⟩ = some (.int .i64 z)) → ∃ l : List Int, l.length = n ∧ ∀ i, i < n → w.cell? ⟨b, off + i, none⟩ = some (.int .i64 (intAt l i))
  | 0, _ => ⟨[], rfl, fun i hi => by omega⟩
  | n + 1, h => by
    obtain ⟨l, hl, hi⟩ := ints_list n (fun i hi => h i (by omega))
    obtain ⟨e, he⟩ := h n (by omega)
    refine ⟨l ++ [e], by simp [hl], fun i hi' => ?_⟩
    by_cases hin : i < n
    · have : intAt (l ++ [e]) i = intAt l i := by unfold intAt; simp [List.getElem?_append_left (by omega : i < l.length)]
      rw [this]; exact hi i hin
    · have : intAt (l ++ [e]) i = e := by unfold intAt; simp [show i = l.length by omega]
      rw [this, show i = n by omega]; exact he
set_option maxRecDepth 100000 in
theorem open_ints' {H : Type} {enc : TypeId × Value → H} {w : World} {b0 : Nat} {spare : Nat → Bool} {held : Bool} {r : Reach} {v : Value} {d : DataW H} {p : List MemPlace}
    (hv : Value.okWide Try.prog w r b0 22 v) (h : DataW.Trod enc Try.prog w 0 spare held 22 v d p) : ∃ l : List Int, IsI w v l := by
  obtain ⟨a0, len, cap, rfl⟩ := okWide_slice Try.underlying22 hv
  obtain ⟨fuel, hf⟩ := h
  rcases DataW.trod_slice Try.underlying22 hf with ⟨hcs, _⟩ | ⟨a, len', cap', elems, rest, n, _, hcs, _, hb, hl, hm, hlen, hel, _, _⟩
  · simp [Value.cells] at hcs
    obtain ⟨rfl, rfl, rfl⟩ := hcs
    exact ⟨[], _, _, rfl, Nat.le_refl _, by unfold maxLen; omega, .inl rfl⟩
  · simp [Value.cells] at hcs
    obtain ⟨rfl, rfl, rfl⟩ := hcs
    by_cases h0 : len = 0
    · subst h0
      exact ⟨[], _, _, rfl, hl, hm, .inl rfl⟩
    · obtain ⟨b, off, spot⟩ := a
      have hs : spot = none := by
        have h1 := hel 0 (by omega)
        rw [cells3, List.getElem?_eq_getElem (by omega)] at h1
        obtain ⟨cs, hc, ht⟩ := Option.bind_eq_some_iff.1 h1
        obtain ⟨t, rfl, _⟩ := DataW.trod_int Try.underlying3 ht
        have c0 := (World.cells?_some hc).2.2 0 (by omega)
        simpa [Addr.add] using World.cell?_spot c0
      subst hs
      have each : ∀ i, i < len → ∃ z : Int, w.cell? ⟨b, off + i, none⟩ = some (.int .i64 z) ∧ b < w.heap.size := by
        intro i hi
        have h1 := hel i hi
        rw [cells3, List.getElem?_eq_getElem (by omega), add_plain] at h1
        obtain ⟨cs, hc, ht⟩ := Option.bind_eq_some_iff.1 h1
        obtain ⟨t, rfl, _, hw⟩ := DataW.trod_int Try.underlying3 ht
        have hblk : b < w.heap.size := World.cells?_block hc (by omega)
        obtain ⟨_, _, hcell⟩ := World.cells?_some hc
        have h2 := hcell 0 (by omega)
        simp only [add_plain] at h2
        exact ⟨t, by simpa using h2, hblk⟩
      obtain ⟨_, _, hblk⟩ := each 0 (by omega)
      obtain ⟨l, rfl, hi⟩ := ints_list (w := w) (b := b) (off := off) len (fun i hi => by
        obtain ⟨e, he, _⟩ := each i hi
        exact ⟨e, he⟩)
      exact ⟨l, _, _, rfl, hl, hm, .inr ⟨b, off, rfl, hblk, hi⟩⟩
end Go.Proofs.Ytofbholpggkjcaa

