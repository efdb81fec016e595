/- VOf, VQuiet, VBox, VNum, WNp, WNq -/
import Derived.Test.YthfhibnnkpbeiaaGreatExactWorldNewG32
import Derived.Test.YthfhibnnkpbeiaaGreatExactWorldNewG07
import Derived.Deep.QuietTactic
import Derived.BigQuiet
import Derived.Test.YthfhibnnkpbeiaaGreatExactWorldNewG02
import Derived.Lib.OthersKept
import Derived.Test.YthfhibnnkpbeiaaGreatExactWorldNewG27
import Derived.Test.YthfhibnnkpbeiaaGreatExactWorldNewG26
/- Vectors: the program's vectorOf. -/
namespace Go.Proofs.YthfhibnnkpbeiaaGreat
open Go.RowKit
abbrev i64 (z : Int) : Value := .int .i64 z
abbrev vec (a b c d : Int) : Value := .agg #[i64 a, i64 b, i64 c, i64 d]
abbrev cell4 (a b c d : Int) : Obj := .cells #[i64 a, i64 b, i64 c, i64 d] 86
def vecOf (l : List Int) : Value := if vok l = true then vec (intAt l 0) (intAt l 1) (intAt l 2) (intAt l 3) else vec 0 0 0 0
theorem decOk {z : Int} (h0 : -1 ≤ z) (h1 : z ≤ 1) : (decide (-1 ≤ z) && decide (z ≤ 1)) = true := by simp [h0, h1]
theorem decNo {z : Int} (h : z < -1 ∨ 1 < z) : (decide (-1 ≤ z) && decide (z ≤ 1)) = false := by
 rw [Bool.and_eq_false_iff]; simp; omega
set_option maxHeartbeats 1000000 in
theorem of_at0 (b off cap : Nat) (x0 : Int) (w : World) (hb : b < w.heap.size) (h0 : w.cell? ⟨b, off, none⟩ = some (.int .i64 x0)) (d0 : (decide (-1 ≤ x0) && decide (x0 ≤ 1)) = false) :
  Calls Tryz.prog 75 #[.slice (some ⟨b, off, none⟩) 4 cap] w fun e w' => e = .returned (.tuple #[vec 0 0 0 0, .bool false]) ∧ Below w.heap.size w w' := by
 go_enter Tryz.func75, Tryz.ntmps75
 go_wp2
 go_loopw [13] (fun i wr => (i = .int .i64 0 ∧ wr = (w.alloc (cell4 0 0 0 0)).alloc (cell4 0 0 0 0))) (fun i _ => 4 - (intOf i).toNat)
 case atStart => exact ⟨rfl, rfl⟩
 case round =>
  rcases hrel with ⟨rfl, rfl⟩
  ·go_wp2_with (go_at_call 71; refine (within_any x0 _ _ _).mono ?_; rintro e w' ⟨rfl, rfl⟩; rw [d0])
   exact bodyPost_ret (v := .tuple #[vec 0 0 0 0, .bool false]) (by simp [results, Tryz.results75, go_sem]) rfl ⟨rfl, ((Below.refl _ w).alloc (Nat.le_refl _) _).alloc (by simp) _⟩
set_option maxHeartbeats 1000000 in
theorem of_at1 (b off cap : Nat) (x0 x1 : Int) (w : World) (hb : b < w.heap.size) (h0 : w.cell? ⟨b, off, none⟩ = some (.int .i64 x0)) (h1 : w.cell? ⟨b, off + 1, none⟩ = some (.int .i64 x1)) (d0 : (decide (-1 ≤ x0) && decide (x0 ≤ 1)) = true) (d1 : (decide (-1 ≤ x1) && decide (x1 ≤ 1)) = false) :
  Calls Tryz.prog 75 #[.slice (some ⟨b, off, none⟩) 4 cap] w fun e w' => e = .returned (.tuple #[vec 0 0 0 0, .bool false]) ∧ Below w.heap.size w w' := by
 go_enter Tryz.func75, Tryz.ntmps75
 go_wp2
 go_loopw [13] (fun i wr => (i = .int .i64 0 ∧ wr = (w.alloc (cell4 0 0 0 0)).alloc (cell4 0 0 0 0)) ∨ (i = .int .i64 1 ∧ wr = (w.alloc (cell4 0 0 0 0)).alloc (cell4 x0 0 0 0))) (fun i _ => 4 - (intOf i).toNat)
 case atStart => exact .inl ⟨rfl, rfl⟩
 case round =>
  rcases hrel with ⟨rfl, rfl⟩ | ⟨rfl, rfl⟩
  ·go_wp2_with (go_at_call 71; refine (within_any x0 _ _ _).mono ?_; rintro e w' ⟨rfl, rfl⟩; rw [d0])
   go_roundw
   case rel => exact .inr (⟨rfl, trivial⟩)
   case measure => simp [intOf]
  ·go_wp2_with (go_at_call 71; refine (within_any x1 _ _ _).mono ?_; rintro e w' ⟨rfl, rfl⟩; rw [d1])
   exact bodyPost_ret (v := .tuple #[vec 0 0 0 0, .bool false]) (by simp [results, Tryz.results75, go_sem]) rfl ⟨rfl, ((Below.refl _ w).alloc (Nat.le_refl _) _).alloc (by simp) _⟩
set_option maxHeartbeats 1000000 in
theorem of_at2 (b off cap : Nat) (x0 x1 x2 : Int) (w : World) (hb : b < w.heap.size) (h0 : w.cell? ⟨b, off, none⟩ = some (.int .i64 x0)) (h1 : w.cell? ⟨b, off + 1, none⟩ = some (.int .i64 x1)) (h2 : w.cell? ⟨b, off + 2, none⟩ = some (.int .i64 x2)) (d0 : (decide (-1 ≤ x0) && decide (x0 ≤ 1)) = true) (d1 : (decide (-1 ≤ x1) && decide (x1 ≤ 1)) = true) (d2 : (decide (-1 ≤ x2) && decide (x2 ≤ 1)) = false) :
  Calls Tryz.prog 75 #[.slice (some ⟨b, off, none⟩) 4 cap] w fun e w' => e = .returned (.tuple #[vec 0 0 0 0, .bool false]) ∧ Below w.heap.size w w' := by
 go_enter Tryz.func75, Tryz.ntmps75
 go_wp2
 go_loopw [13] (fun i wr => (i = .int .i64 0 ∧ wr = (w.alloc (cell4 0 0 0 0)).alloc (cell4 0 0 0 0)) ∨ (i = .int .i64 1 ∧ wr = (w.alloc (cell4 0 0 0 0)).alloc (cell4 x0 0 0 0)) ∨ (i = .int .i64 2 ∧ wr = (w.alloc (cell4 0 0 0 0)).alloc (cell4 x0 x1 0 0))) (fun i _ => 4 - (intOf i).toNat)
 case atStart => exact .inl ⟨rfl, rfl⟩
 case round =>
  rcases hrel with ⟨rfl, rfl⟩ | ⟨rfl, rfl⟩ | ⟨rfl, rfl⟩
  ·go_wp2_with (go_at_call 71; refine (within_any x0 _ _ _).mono ?_; rintro e w' ⟨rfl, rfl⟩; rw [d0])
   go_roundw
   case rel => exact .inr (.inl ⟨rfl, trivial⟩)
   case measure => simp [intOf]
  ·go_wp2_with (go_at_call 71; refine (within_any x1 _ _ _).mono ?_; rintro e w' ⟨rfl, rfl⟩; rw [d1])
   go_roundw
   case rel => exact .inr (.inr (⟨rfl, trivial⟩))
   case measure => simp [intOf]
  ·go_wp2_with (go_at_call 71; refine (within_any x2 _ _ _).mono ?_; rintro e w' ⟨rfl, rfl⟩; rw [d2])
   exact bodyPost_ret (v := .tuple #[vec 0 0 0 0, .bool false]) (by simp [results, Tryz.results75, go_sem]) rfl ⟨rfl, ((Below.refl _ w).alloc (Nat.le_refl _) _).alloc (by simp) _⟩
set_option maxHeartbeats 1000000 in
theorem of_at3 (b off cap : Nat) (x0 x1 x2 x3 : Int) (w : World) (hb : b < w.heap.size) (h0 : w.cell? ⟨b, off, none⟩ = some (.int .i64 x0)) (h1 : w.cell? ⟨b, off + 1, none⟩ = some (.int .i64 x1)) (h2 : w.cell? ⟨b, off + 2, none⟩ = some (.int .i64 x2)) (h3 : w.cell? ⟨b, off + 3, none⟩ = some (.int .i64 x3)) (d0 : (decide (-1 ≤ x0) && decide (x0 ≤ 1)) = true) (d1 : (decide (-1 ≤ x1) && decide (x1 ≤ 1)) = true) (d2 : (decide (-1 ≤ x2) && decide (x2 ≤ 1)) = true) (d3 : (decide (-1 ≤ x3) && decide (x3 ≤ 1)) = false) :
  Calls Tryz.prog 75 #[.slice (some ⟨b, off, none⟩) 4 cap] w fun e w' => e = .returned (.tuple #[vec 0 0 0 0, .bool false]) ∧ Below w.heap.size w w' := by
 go_enter Tryz.func75, Tryz.ntmps75
 go_wp2
 go_loopw [13] (fun i wr => (i = .int .i64 0 ∧ wr = (w.alloc (cell4 0 0 0 0)).alloc (cell4 0 0 0 0)) ∨ (i = .int .i64 1 ∧ wr = (w.alloc (cell4 0 0 0 0)).alloc (cell4 x0 0 0 0)) ∨ (i = .int .i64 2 ∧ wr = (w.alloc (cell4 0 0 0 0)).alloc (cell4 x0 x1 0 0)) ∨ (i = .int .i64 3 ∧ wr = (w.alloc (cell4 0 0 0 0)).alloc (cell4 x0 x1 x2 0))) (fun i _ => 4 - (intOf i).toNat)
 case atStart => exact .inl ⟨rfl, rfl⟩
 case round =>
  rcases hrel with ⟨rfl, rfl⟩ | ⟨rfl, rfl⟩ | ⟨rfl, rfl⟩ | ⟨rfl, rfl⟩
  ·go_wp2_with (go_at_call 71; refine (within_any x0 _ _ _).mono ?_; rintro e w' ⟨rfl, rfl⟩; rw [d0])
   go_roundw
   case rel => exact .inr (.inl ⟨rfl, trivial⟩)
   case measure => simp [intOf]
  ·go_wp2_with (go_at_call 71; refine (within_any x1 _ _ _).mono ?_; rintro e w' ⟨rfl, rfl⟩; rw [d1])
   go_roundw
   case rel => exact .inr (.inr (.inl ⟨rfl, trivial⟩))
   case measure => simp [intOf]
  ·go_wp2_with (go_at_call 71; refine (within_any x2 _ _ _).mono ?_; rintro e w' ⟨rfl, rfl⟩; rw [d2])
   go_roundw
   case rel => exact .inr (.inr (.inr (⟨rfl, trivial⟩)))
   case measure => simp [intOf]
  ·go_wp2_with (go_at_call 71; refine (within_any x3 _ _ _).mono ?_; rintro e w' ⟨rfl, rfl⟩; rw [d3])
   exact bodyPost_ret (v := .tuple #[vec 0 0 0 0, .bool false]) (by simp [results, Tryz.results75, go_sem]) rfl ⟨rfl, ((Below.refl _ w).alloc (Nat.le_refl _) _).alloc (by simp) _⟩
set_option maxHeartbeats 1000000 in
theorem of_at4 (b off cap : Nat) (x0 x1 x2 x3 : Int) (w : World) (hb : b < w.heap.size) (h0 : w.cell? ⟨b, off, none⟩ = some (.int .i64 x0)) (h1 : w.cell? ⟨b, off + 1, none⟩ = some (.int .i64 x1)) (h2 : w.cell? ⟨b, off + 2, none⟩ = some (.int .i64 x2)) (h3 : w.cell? ⟨b, off + 3, none⟩ = some (.int .i64 x3)) (d0 : (decide (-1 ≤ x0) && decide (x0 ≤ 1)) = true) (d1 : (decide (-1 ≤ x1) && decide (x1 ≤ 1)) = true) (d2 : (decide (-1 ≤ x2) && decide (x2 ≤ 1)) = true) (d3 : (decide (-1 ≤ x3) && decide (x3 ≤ 1)) = true) :
  Calls Tryz.prog 75 #[.slice (some ⟨b, off, none⟩) 4 cap] w fun e w' => e = .returned (.tuple #[vec x0 x1 x2 x3, .bool true]) ∧ Below w.heap.size w w' := by
 go_enter Tryz.func75, Tryz.ntmps75
 go_wp2
 go_loopw [13] (fun i wr => (i = .int .i64 0 ∧ wr = (w.alloc (cell4 0 0 0 0)).alloc (cell4 0 0 0 0)) ∨ (i = .int .i64 1 ∧ wr = (w.alloc (cell4 0 0 0 0)).alloc (cell4 x0 0 0 0)) ∨ (i = .int .i64 2 ∧ wr = (w.alloc (cell4 0 0 0 0)).alloc (cell4 x0 x1 0 0)) ∨ (i = .int .i64 3 ∧ wr = (w.alloc (cell4 0 0 0 0)).alloc (cell4 x0 x1 x2 0)) ∨ (i = .int .i64 4 ∧ wr = (w.alloc (cell4 0 0 0 0)).alloc (cell4 x0 x1 x2 x3))) (fun i _ => 4 - (intOf i).toNat)
 case atStart => exact .inl ⟨rfl, rfl⟩
 case round =>
  rcases hrel with ⟨rfl, rfl⟩ | ⟨rfl, rfl⟩ | ⟨rfl, rfl⟩ | ⟨rfl, rfl⟩ | ⟨rfl, rfl⟩
  ·go_wp2_with (go_at_call 71; refine (within_any x0 _ _ _).mono ?_; rintro e w' ⟨rfl, rfl⟩; rw [d0])
   go_roundw
   case rel => exact .inr (.inl ⟨rfl, trivial⟩)
   case measure => simp [intOf]
  ·go_wp2_with (go_at_call 71; refine (within_any x1 _ _ _).mono ?_; rintro e w' ⟨rfl, rfl⟩; rw [d1])
   go_roundw
   case rel => exact .inr (.inr (.inl ⟨rfl, trivial⟩))
   case measure => simp [intOf]
  ·go_wp2_with (go_at_call 71; refine (within_any x2 _ _ _).mono ?_; rintro e w' ⟨rfl, rfl⟩; rw [d2])
   go_roundw
   case rel => exact .inr (.inr (.inr (.inl ⟨rfl, trivial⟩)))
   case measure => simp [intOf]
  ·go_wp2_with (go_at_call 71; refine (within_any x3 _ _ _).mono ?_; rintro e w' ⟨rfl, rfl⟩; rw [d3])
   go_roundw
   case rel => exact .inr (.inr (.inr (.inr (⟨rfl, trivial⟩))))
   case measure => simp [intOf]
  ·go_wp2
   exact bodyPost_ret (v := .tuple #[vec x0 x1 x2 x3, .bool true]) (by simp [results, Tryz.results75, go_sem]) rfl ⟨rfl, ((Below.refl _ w).alloc (Nat.le_refl _) _).alloc (by simp) _⟩
set_option maxHeartbeats 1000000 in
theorem of_long (a : Option Addr) (n cap : Nat) (w : World) (_hn : n ≤ 4611686018427387904) (h4 : ¬ (n : Int) = 4) :
  Calls Tryz.prog 75 #[.slice a n cap] w fun e w' => e = .returned (.tuple #[vec 0 0 0 0, .bool false]) ∧ Below w.heap.size w w' := by
 go_enter Tryz.func75, Tryz.ntmps75
 go_wp2
 exact bodyPost_ret (v := .tuple #[vec 0 0 0 0, .bool false]) (by simp [results, Tryz.results75, go_sem]) rfl ⟨rfl, (Below.refl _ w).alloc (Nat.le_refl _) _⟩
theorem vec_no {l : List Int} (h : vok l = false) : vecOf l = vec 0 0 0 0 := by simp [vecOf, h]
theorem of_any (x : Value) (l : List Int) (w : World) (hl : l.length ≤ 4611686018427387904) (h : IsI w x l) :
  Calls Tryz.prog 75 #[x] w fun e w' => e = .returned (.tuple #[vecOf l, .bool (vok l)]) ∧ Below w.heap.size w w' := by
 obtain ⟨a, cap, rfl, h1, h2, h⟩ := h
 by_cases h4 : l.length = 4
 ·obtain ⟨b, off, rfl, hb, hc⟩ := h.resolve_left (by rintro rfl; simp at h4)
  have c0 := hc 0 (by omega)
  have c1 := hc 1 (by omega)
  have c2 := hc 2 (by omega)
  have c3 := hc 3 (by omega)
  rw [Nat.add_zero] at c0
  have no : ∀ k, k < 4 → (intAt l k < -1 ∨ 1 < intAt l k) → Ending.returned (.tuple #[vec 0 0 0 0, .bool false]) = .returned (.tuple #[vecOf l, .bool (vok l)]) := fun k hk hb => by
   have hv := vok_no (l := l) (k := k) (by omega) hb
   rw [vec_no hv, hv]
  rw [h4]
  by_cases e0 : intAt l 0 < -1 ∨ 1 < intAt l 0
  ·exact (of_at0 b off cap _ w hb c0 (decNo e0)).mono fun e w' ⟨h, k⟩ => ⟨h.trans (no 0 (by omega) e0), k⟩
  by_cases e1 : intAt l 1 < -1 ∨ 1 < intAt l 1
  ·exact (of_at1 b off cap _ _ w hb c0 c1 (decOk (by omega) (by omega)) (decNo e1)).mono fun e w' ⟨h, k⟩ => ⟨h.trans (no 1 (by omega) e1), k⟩
  by_cases e2 : intAt l 2 < -1 ∨ 1 < intAt l 2
  ·exact (of_at2 b off cap _ _ _ w hb c0 c1 c2 (decOk (by omega) (by omega)) (decOk (by omega) (by omega)) (decNo e2)).mono fun e w' ⟨h, k⟩ => ⟨h.trans (no 2 (by omega) e2), k⟩
  by_cases e3 : intAt l 3 < -1 ∨ 1 < intAt l 3
  ·exact (of_at3 b off cap _ _ _ _ w hb c0 c1 c2 c3 (decOk (by omega) (by omega)) (decOk (by omega) (by omega)) (decOk (by omega) (by omega)) (decNo e3)).mono fun e w' ⟨h, k⟩ => ⟨h.trans (no 3 (by omega) e3), k⟩
  have hv : vok l = true := by
   rw [vok_all (fun j hj => by
    have hj4 : j = 0 ∨ j = 1 ∨ j = 2 ∨ j = 3 := by omega
    rcases hj4 with rfl | rfl | rfl | rfl <;> omega)]
   simp [h4]
  refine (of_at4 b off cap _ _ _ _ w hb c0 c1 c2 c3 (decOk (by omega) (by omega)) (decOk (by omega) (by omega)) (decOk (by omega) (by omega)) (decOk (by omega) (by omega))).mono fun e w' ⟨h, k⟩ => ⟨h.trans ?_, k⟩
  simp [vecOf, hv]
 ·have hv : vok l = false := by simp [vok, h4]
  refine (of_long a l.length cap w hl (by omega)).mono fun e w' ⟨h, k⟩ => ⟨h.trans ?_, k⟩
  rw [vec_no hv, hv]
end Go.Proofs.YthfhibnnkpbeiaaGreat

/- A region that draws its order, whose operations only read and whose callees lay blocks of their own, is walked once, in the order of the text. -/
namespace Go.Proofs.YthfhibnnkpbeiaaGreat
open Go.RowKit
instance (W : World) : Nonempty (Beyond W) := ⟨⟨W, Below.refl _ _⟩⟩
end Go.Proofs.YthfhibnnkpbeiaaGreat

/- Vectors: an array of four numbers in a block of its own. -/
namespace Go.Proofs.YthfhibnnkpbeiaaGreat
open Go.RowKit
def V4 (w : World) (g : Nat) (a b c d : Int) : Prop := w.heap[g]? = some (cell4 a b c d)
theorem V4.new (w : World) (a b c d : Int) : V4 (w.alloc (cell4 a b c d)) w.heap.size a b c d := by
 show (w.heap.push _)[w.heap.size]? = _
 simp
theorem V4.keep {w w' : World} {B g : Nat} {a b c d : Int} (h : V4 w g a b c d) (hb : Below B w w') (hg : g < B) : V4 w' g a b c d := (hb.block g hg).trans h
theorem V4.lt {w : World} {g : Nat} {a b c d : Int} (h : V4 w g a b c d) : g < w.heap.size := (Array.getElem?_eq_some_iff.1 h).1
theorem V4.alloc {w : World} {g : Nat} {a b c d : Int} (h : V4 w g a b c d) (o : Obj) : V4 (w.alloc o) g a b c d := h.keep ((Below.refl w.heap.size w).alloc (Nat.le_refl _) o) h.lt
theorem V4.cells {w : World} {g : Nat} {a b c d : Int} (h : V4 w g a b c d) :
  w.cell? ⟨g, 0, none⟩ = some (.int .i64 a) ∧ w.cell? ⟨g, 1, none⟩ = some (.int .i64 b) ∧ w.cell? ⟨g, 2, none⟩ = some (.int .i64 c) ∧ w.cell? ⟨g, 3, none⟩ = some (.int .i64 d) ∧ (∀ o, w.frozen? ⟨g, o, none⟩ = false) := by
 have h' : w.heap[g]? = some (.cells #[i64 a, i64 b, i64 c, i64 d] 86) := h
 refine ⟨?_, ?_, ?_, ?_, fun o => ?_⟩
 ·unfold World.cell?; simp only [h']; rfl
 ·unfold World.cell?; simp only [h']; rfl
 ·unfold World.cell?; simp only [h']; rfl
 ·unfold World.cell?; simp only [h']; rfl
 ·unfold World.frozen?; simp only [h']; simp
theorem V4.ints {w : World} {g : Nat} {a b c d : Int} (h : V4 w g a b c d) : IntsAt w g 0 [a, b, c, d] := by
 obtain ⟨h0, h1, h2, h3, _⟩ := h.cells
 refine ⟨h.lt, fun i hi => ?_⟩
 have hi4 : i = 0 ∨ i = 1 ∨ i = 2 ∨ i = 3 := by simp at hi; omega
 rcases hi4 with rfl | rfl | rfl | rfl
 ·exact h0
 ·exact h1
 ·exact h2
 ·exact h3
abbrev put4 (w : World) (g : Nat) (a b c d : Int) : World := (((w.setCell ⟨g, 0, none⟩ (.int .i64 a)).setCell ⟨g, 1, none⟩ (.int .i64 b)).setCell ⟨g, 2, none⟩ (.int .i64 c)).setCell ⟨g, 3, none⟩ (.int .i64 d)
theorem put4_below {B : Nat} {a w : World} (h : Below B a w) {g : Nat} (hg : B ≤ g) (x0 x1 x2 x3 : Int) : Below B a (put4 w g x0 x1 x2 x3) :=
 (((h.setCell (p := ⟨g, 0, none⟩) hg _).setCell (p := ⟨g, 1, none⟩) hg _).setCell (p := ⟨g, 2, none⟩) hg _).setCell (p := ⟨g, 3, none⟩) hg _
theorem V4.put {w : World} {g : Nat} {a b c d : Int} (h : V4 w g a b c d) (x0 x1 x2 x3 : Int) : V4 (put4 w g x0 x1 x2 x3) g x0 x1 x2 x3 := by
 have h' : w.heap[g]? = some (.cells #[i64 a, i64 b, i64 c, i64 d] 86) := h
 obtain ⟨hl, hv⟩ := Array.getElem?_eq_some_iff.1 h'
 unfold V4 put4
 simp [World.setCell, hl, Array.getElem_modify, hv]
end Go.Proofs.YthfhibnnkpbeiaaGreat

/- Vectors: the program's copyOf and numbers, and numberOf. -/
namespace Go.Proofs.YthfhibnnkpbeiaaGreat
open Go.RowKit
theorem hidVNum {p : Prop} (h : p) : Hid p := h
theorem intCells_one (l : List Int) : ∀ u ∈ intCells l, u.oneCell' = true := by
 intro u hu
 simp only [intCells, List.mem_map] at hu
 obtain ⟨z, _, rfl⟩ := hu
 rfl
theorem add_none (b off n : Nat) : (⟨b, off, none⟩ : Addr).add n = ⟨b, off + n, none⟩ := by
 unfold Addr.add
 split <;> simp_all
theorem IntsAt.cells {w : World} {b off : Nat} {l : List Int} (h : IntsAt w b off l) : ∀ (j : Nat) (u : Value), (intCells l)[j]? = some u → w.cell? ((⟨b, off, none⟩ : Addr).add j) = some u := by
 intro j u hu
 obtain ⟨hj, rfl⟩ := List.getElem?_eq_some_iff.1 hu
 rw [intCells_length] at hj
 rw [add_none, h.2 j hj]
 simp [intCells, intAt, hj]
set_option maxHeartbeats 1000000 in
theorem copyI_any (b off cap : Nat) (l : List Int) (w : World) (hl : l.length ≤ 1048576) (hI : IntsAt w b off l) :
  Calls Tryz.prog 34 #[.slice (some ⟨b, off, none⟩) l.length cap] w fun e w' => ∃ x, e = .returned x ∧ OwnI w.heap.size w' x l ∧ Below w.heap.size w w' := by
 obtain ⟨i0, hi, hz0, hz1, hz2⟩ := info_parts info3
 have HI : Hid (IntsAt w b off l) := hI
 clear hI
 go_enter Tryz.func34, Tryz.ntmps34
 go_wp2_with (at_builtin; refine wpList_append_own _ rfl _ _ 22 rfl w.heap.size 3 i0 _ 1 8 Tryz.underlying22 hi hz0 hz1 hz2 rfl (by decide) (.slice none 0 0) 0 [] rfl (World.ownsRow_nil w _ 3 1) ⟨b, off, none⟩ l.length cap (intCells l) rfl (by rw [intCells_length]; omega) HI.out.cells (intCells_one l) (by unfold maxLen; omega) (by omega) (Nat.le_refl _) ?_; intro v' w1 hown hgrow hnil)
 go_ret
 refine ⟨_, rfl, OwnI.of_row (by simpa using hown), (Below.refl _ w).grown hgrow (Nat.le_refl _) (fun k e => by cases e)⟩
set_option maxHeartbeats 1000000 in
theorem numbers_any (a b c d : Int) (w : World) :
  Calls Tryz.prog 55 #[vec a b c d] w fun e w' => ∃ x, e = .returned x ∧ OwnI w.heap.size w' x [a, b, c, d] ∧ Below w.heap.size w w' := by
 have hI : IntsAt (w.alloc (cell4 a b c d)) w.heap.size 0 [a, b, c, d] := (V4.new w a b c d).ints
 have H := hidVNum (copyI_any _ 0 4 [a, b, c, d] _ (by simp) hI)
 clear hI
 go_enter Tryz.func55, Tryz.ntmps55
 go_wp2_with fail
 refine H.out.mono ?_
 rintro e w1 ⟨x, rfl, ho, hb⟩
 have hB : Below w.heap.size w w1 := ((Below.refl _ w).alloc (Nat.le_refl _) _).trans (hb.mono (by simp))
 have hO : OwnI w.heap.size w1 x [a, b, c, d] := ho.mono (by simp)
 clear ho hb
 go_wp2
 go_ret
 exact ⟨_, rfl, hO, hB⟩
end Go.Proofs.YthfhibnnkpbeiaaGreat

/- What WorldNew answers; nothing decided, as a row and as an array. -/
namespace Go.Proofs.YthfhibnnkpbeiaaGreat
open Go.RowKit
theorem hidWNp {p : Prop} (h : p) : Hid p := h
def none4 : List Int := [-1, -1, -1, -1]
def wd0 : Wd := ⟨⟨0, 0, [], [], [], 0⟩, [], []⟩
def worldA (m : Md) : Wd := if m.ok = true then ⟨m, [newK m none4], []⟩ else wd0
def wOk (m : Md) : Bool := m.ok
theorem world_no {m : Md} (h : wOk m = false) : worldA m = wd0 := by unfold wOk at h; unfold worldA; rw [if_neg (by rw [h]; simp)]
theorem world_yes {m : Md} (h : m.ok = true) : worldA m = ⟨m, [newK m none4], []⟩ := by unfold worldA; rw [if_pos h]
theorem kOk_none (m : Md) : kOk m none4 = wOk m := by
 have h : vok none4 = true := by decide
 unfold kOk wOk
 rw [h, Bool.and_true]
theorem wd0_own (F : Nat → Prop) (w : World) : WorF F w (.agg #[.int .i64 0, .int .i64 0, .slice none 0 0, .slice none 0 0, .slice none 0 0, .int .i64 0, .slice none 0 0, .slice none 0 0]) wd0 :=
 ⟨fun _ => False, fun _ => False, fun _ => False, _, _, _, _, _, rfl, md0_own w, .nil _ _ _ _ _ (Nat.zero_le _), .nil _ _ _ _ _ (Nat.zero_le _), fun _ h => h.elim, fun _ h => h.elim, fun _ h => h.elim⟩
def put8w (w : World) (b : Nat) (x0 : Value) (x1 : Value) (x2 : Value) (x3 : Value) (x4 : Value) (x5 : Value) (x6 : Value) (x7 : Value) : World := ((((((((w.setCell ⟨b, 0, none⟩ x0).setCell ⟨b, 1, none⟩ x1).setCell ⟨b, 2, none⟩ x2).setCell ⟨b, 3, none⟩ x3).setCell ⟨b, 4, none⟩ x4).setCell ⟨b, 5, none⟩ x5).setCell ⟨b, 6, none⟩ x6).setCell ⟨b, 7, none⟩ x7)
theorem put8w_turns (w : World) (b : Nat) (x0 : Value) (x1 : Value) (x2 : Value) (x3 : Value) (x4 : Value) (x5 : Value) (x6 : Value) (x7 : Value) : Turns (fun k => k = b) w (put8w w b x0 x1 x2 x3 x4 x5 x6 x7) := (((((((put1_turns _ _ 0 _).trans (put1_turns _ _ 1 _)).trans (put1_turns _ _ 2 _)).trans (put1_turns _ _ 3 _)).trans (put1_turns _ _ 4 _)).trans (put1_turns _ _ 5 _)).trans (put1_turns _ _ 6 _)).trans (put1_turns _ _ 7 _)
theorem Bk.put8w {w : World} {b : Nat} {T : TypeId} {z0 z1 z2 z3 z4 z5 z6 z7 : Value} (h : Bk w b T #[z0, z1, z2, z3, z4, z5, z6, z7]) (x0 : Value) (x1 : Value) (x2 : Value) (x3 : Value) (x4 : Value) (x5 : Value) (x6 : Value) (x7 : Value) : Bk (put8w w b x0 x1 x2 x3 x4 x5 x6 x7) b T #[x0, x1, x2, x3, x4, x5, x6, x7] := by
 have h0 : Bk (w.setCell ⟨b, 0, none⟩ x0) b T #[x0, z1, z2, z3, z4, z5, z6, z7] := h.put 0 x0
 have h1 : Bk ((w.setCell ⟨b, 0, none⟩ x0).setCell ⟨b, 1, none⟩ x1) b T #[x0, x1, z2, z3, z4, z5, z6, z7] := h0.put 1 x1
 have h2 : Bk (((w.setCell ⟨b, 0, none⟩ x0).setCell ⟨b, 1, none⟩ x1).setCell ⟨b, 2, none⟩ x2) b T #[x0, x1, x2, z3, z4, z5, z6, z7] := h1.put 2 x2
 have h3 : Bk ((((w.setCell ⟨b, 0, none⟩ x0).setCell ⟨b, 1, none⟩ x1).setCell ⟨b, 2, none⟩ x2).setCell ⟨b, 3, none⟩ x3) b T #[x0, x1, x2, x3, z4, z5, z6, z7] := h2.put 3 x3
 have h4 : Bk (((((w.setCell ⟨b, 0, none⟩ x0).setCell ⟨b, 1, none⟩ x1).setCell ⟨b, 2, none⟩ x2).setCell ⟨b, 3, none⟩ x3).setCell ⟨b, 4, none⟩ x4) b T #[x0, x1, x2, x3, x4, z5, z6, z7] := h3.put 4 x4
 have h5 : Bk ((((((w.setCell ⟨b, 0, none⟩ x0).setCell ⟨b, 1, none⟩ x1).setCell ⟨b, 2, none⟩ x2).setCell ⟨b, 3, none⟩ x3).setCell ⟨b, 4, none⟩ x4).setCell ⟨b, 5, none⟩ x5) b T #[x0, x1, x2, x3, x4, x5, z6, z7] := h4.put 5 x5
 have h6 : Bk (((((((w.setCell ⟨b, 0, none⟩ x0).setCell ⟨b, 1, none⟩ x1).setCell ⟨b, 2, none⟩ x2).setCell ⟨b, 3, none⟩ x3).setCell ⟨b, 4, none⟩ x4).setCell ⟨b, 5, none⟩ x5).setCell ⟨b, 6, none⟩ x6) b T #[x0, x1, x2, x3, x4, x5, x6, z7] := h5.put 6 x6
 have h7 : Bk ((((((((w.setCell ⟨b, 0, none⟩ x0).setCell ⟨b, 1, none⟩ x1).setCell ⟨b, 2, none⟩ x2).setCell ⟨b, 3, none⟩ x3).setCell ⟨b, 4, none⟩ x4).setCell ⟨b, 5, none⟩ x5).setCell ⟨b, 6, none⟩ x6).setCell ⟨b, 7, none⟩ x7) b T #[x0, x1, x2, x3, x4, x5, x6, x7] := h6.put 7 x7
 exact h7
theorem none_any (w : World) : Calls Tryz.prog 53 #[] w fun e w' => (∃ a c, e = .returned (.slice a none4.length c) ∧ IsI w' (.slice a none4.length c) none4) ∧ Below w.heap.size w w' := by
 have hb : Below w.heap.size w (w.alloc (.cells #[.int .i64 (-1), .int .i64 (-1), .int .i64 (-1), .int .i64 (-1)] 3)) := (Below.refl _ w).alloc (Nat.le_refl _) _
 have hk : Bk (w.alloc (.cells #[.int .i64 (-1), .int .i64 (-1), .int .i64 (-1), .int .i64 (-1)] 3)) w.heap.size 3 #[.int .i64 (-1), .int .i64 (-1), .int .i64 (-1), .int .i64 (-1)] := Bk.new w _ _
 have HI : Hid (IsI (w.alloc (.cells #[.int .i64 (-1), .int .i64 (-1), .int .i64 (-1), .int .i64 (-1)] 3)) (.slice (some ⟨w.heap.size, 0, none⟩) none4.length 4) none4) := by
  refine ⟨_, 4, rfl, by decide, by unfold maxLen; decide, .inr ⟨w.heap.size, 0, rfl, hk.lt, fun i hi => ?_⟩⟩
  rw [Nat.zero_add]
  match i, hi with
  | 0, _ => exact hk.cell rfl
  | 1, _ => exact hk.cell rfl
  | 2, _ => exact hk.cell rfl
  | 3, _ => exact hk.cell rfl
  | i + 4, hi => exact absurd hi (by simp [none4])
 have HB : Hid _ := hb
 clear hb hk
 go_enter Tryz.func53, Tryz.ntmps53
 go_wp2
 go_ret
 exact ⟨⟨_, _, rfl, HI.out⟩, HB.out⟩
theorem V4.put1 {w : World} {g : Nat} {a b c d : Int} (h : V4 w g a b c d) (x : Int) : V4 (w.setCell ⟨g, 0, none⟩ (.int .i64 x)) g x b c d ∧ V4 (w.setCell ⟨g, 1, none⟩ (.int .i64 x)) g a x c d ∧ V4 (w.setCell ⟨g, 2, none⟩ (.int .i64 x)) g a b x d ∧ V4 (w.setCell ⟨g, 3, none⟩ (.int .i64 x)) g a b c x := by
 have h' : Bk w g 86 #[i64 a, i64 b, i64 c, i64 d] := h
 exact ⟨h'.put 0 (.int .i64 x), h'.put 1 (.int .i64 x), h'.put 2 (.int .i64 x), h'.put 3 (.int .i64 x)⟩
def fil (j k : Nat) : Int := if j < k then -1 else 0
set_option maxHeartbeats 4000000 in
theorem nothing_any (w : World) : Calls Tryz.prog 54 #[] w fun e w' => e = .returned (vec (-1) (-1) (-1) (-1)) ∧ Below w.heap.size w w' := by
 obtain ⟨W0, hW0⟩ : ∃ W0, (w.alloc (cell4 0 0 0 0)).alloc (cell4 0 0 0 0) = W0 := ⟨_, rfl⟩
 have HR0 : Hid (V4 W0 w.heap.size 0 0 0 0) := hW0 ▸ (V4.new w 0 0 0 0).alloc _
 have HV0 : Hid (V4 W0 (w.heap.size + 1) 0 0 0 0) := by
  rw [← hW0]
  have := V4.new (w.alloc (cell4 0 0 0 0)) 0 0 0 0
  rw [show (w.alloc (cell4 0 0 0 0)).heap.size = w.heap.size + 1 from by simp] at this
  exact this
 have HB0 : Hid (Below w.heap.size w W0) := by rw [← hW0]; exact ((Below.refl _ w).alloc (Nat.le_refl _) _).alloc (by simp) _
 have HW0 := hidWNp hW0
 clear hW0
 go_enter Tryz.func54, Tryz.ntmps54
 go_wp2
 rw [HW0.out]
 clear HW0
 go_loopw [3] (fun i wr => ∃ k : Nat, k ≤ 4 ∧ i = .int .i64 k ∧ Hid (V4 wr (w.heap.size + 1) (fil 0 k) (fil 1 k) (fil 2 k) (fil 3 k)) ∧ Hid (V4 wr w.heap.size 0 0 0 0) ∧ Hid (Below w.heap.size w wr)) (fun i _ => 4 - (intOf i).toNat)
 case atStart => exact ⟨0, by omega, rfl, HV0.out, HR0.out, HB0.out⟩
 case round =>
  obtain ⟨k, hk, rfl, HV, HR, HB⟩ := hrel
  clear HV0 HR0 HB0
  have hk5 : k = 0 ∨ k = 1 ∨ k = 2 ∨ k = 3 ∨ k = 4 := by omega
  clear hk
  rcases hk5 with rfl | rfl | rfl | rfl | rfl
  ·obtain ⟨v0, v1, v2, v3, vf⟩ := HV.out.cells
   have HVn := (HV.out.put1 (-1)).1
   have HT := put1_turns wr (w.heap.size + 1) 0 (.int .i64 (-1))
   have HV2 := hidWNp HVn
   have HR2 := hidWNp ((HT.block _ HR.out.lt (by omega)).trans HR.out)
   have HB2 : Hid (Below w.heap.size w (wr.setCell ⟨w.heap.size + 1, 0, none⟩ (.int .i64 (-1)))) := HB.out.trans (HT.to_below (fun j e => by omega) HB.out.size)
   clear HVn HT
   go_wp2
   refine ⟨⟨1, by omega, by go_num, HV2.out, HR2.out, HB2.out⟩, by simp [intOf]⟩
  ·obtain ⟨v0, v1, v2, v3, vf⟩ := HV.out.cells
   have HVn := (HV.out.put1 (-1)).2.1
   have HT := put1_turns wr (w.heap.size + 1) 1 (.int .i64 (-1))
   have HV2 := hidWNp HVn
   have HR2 := hidWNp ((HT.block _ HR.out.lt (by omega)).trans HR.out)
   have HB2 : Hid (Below w.heap.size w (wr.setCell ⟨w.heap.size + 1, 1, none⟩ (.int .i64 (-1)))) := HB.out.trans (HT.to_below (fun j e => by omega) HB.out.size)
   clear HVn HT
   go_wp2
   refine ⟨⟨2, by omega, by go_num, HV2.out, HR2.out, HB2.out⟩, by simp [intOf]⟩
  ·obtain ⟨v0, v1, v2, v3, vf⟩ := HV.out.cells
   have HVn := (HV.out.put1 (-1)).2.2.1
   have HT := put1_turns wr (w.heap.size + 1) 2 (.int .i64 (-1))
   have HV2 := hidWNp HVn
   have HR2 := hidWNp ((HT.block _ HR.out.lt (by omega)).trans HR.out)
   have HB2 : Hid (Below w.heap.size w (wr.setCell ⟨w.heap.size + 1, 2, none⟩ (.int .i64 (-1)))) := HB.out.trans (HT.to_below (fun j e => by omega) HB.out.size)
   clear HVn HT
   go_wp2
   refine ⟨⟨3, by omega, by go_num, HV2.out, HR2.out, HB2.out⟩, by simp [intOf]⟩
  ·obtain ⟨v0, v1, v2, v3, vf⟩ := HV.out.cells
   have HVn := (HV.out.put1 (-1)).2.2.2
   have HT := put1_turns wr (w.heap.size + 1) 3 (.int .i64 (-1))
   have HV2 := hidWNp HVn
   have HR2 := hidWNp ((HT.block _ HR.out.lt (by omega)).trans HR.out)
   have HB2 : Hid (Below w.heap.size w (wr.setCell ⟨w.heap.size + 1, 3, none⟩ (.int .i64 (-1)))) := HB.out.trans (HT.to_below (fun j e => by omega) HB.out.size)
   clear HVn HT
   go_wp2
   refine ⟨⟨4, by omega, by go_num, HV2.out, HR2.out, HB2.out⟩, by simp [intOf]⟩
  ·obtain ⟨v0, v1, v2, v3, vf⟩ := HV.out.cells
   obtain ⟨r0, r1, r2, r3, rf⟩ := HR.out.cells
   have HVc := hidWNp HV.out
   have HR2 := HR.out.put (-1) (-1) (-1) (-1)
   obtain ⟨t0, t1, t2, t3, tf⟩ := HR2.cells
   have HB2 : Hid (Below w.heap.size w (put4 wr w.heap.size (-1) (-1) (-1) (-1))) := put4_below HB.out (Nat.le_refl _) _ _ _ _
   change wr.cell? ⟨w.heap.size + 1, 0, none⟩ = some (.int .i64 (-1)) at v0
   change wr.cell? ⟨w.heap.size + 1, 1, none⟩ = some (.int .i64 (-1)) at v1
   change wr.cell? ⟨w.heap.size + 1, 2, none⟩ = some (.int .i64 (-1)) at v2
   change wr.cell? ⟨w.heap.size + 1, 3, none⟩ = some (.int .i64 (-1)) at v3
   clear HR2
   go_wp2
   refine bodyPost_ret (v := vec (-1) (-1) (-1) (-1)) (by simp [results, Tryz.results54, go_sem, vec, t0, t1, t2, t3]) rfl ⟨rfl, HB2.out⟩
end Go.Proofs.YthfhibnnkpbeiaaGreat

/- A row of one kernel that owns its memory. -/
namespace Go.Proofs.YthfhibnnkpbeiaaGreat
open Go.RowKit
theorem src_kern {w : World} {X : Nat} {T : TypeId} {y0 y1 y2 y3 y4 y5 y6 y7 y8 y9 y10 y11 y12 y13 : Value} (h : Bk w X T #[y0, y1, y2, y3, y4, y5, y6, y7, y8, y9, y10, y11, y12, y13]) : SrcC w (.slice (some ⟨X, 0, none⟩) 1 1) 14 1 [y0, y1, y2, y3, y4, y5, y6, y7, y8, y9, y10, y11, y12, y13] := by
 refine ⟨rfl, _, _, rfl, .inr ⟨X, 0, rfl, h.lt, fun j hj => ?_⟩⟩
 rw [Nat.zero_add]
 match j, hj with
 | 0, _ => exact h.cell rfl
 | 1, _ => exact h.cell rfl
 | 2, _ => exact h.cell rfl
 | 3, _ => exact h.cell rfl
 | 4, _ => exact h.cell rfl
 | 5, _ => exact h.cell rfl
 | 6, _ => exact h.cell rfl
 | 7, _ => exact h.cell rfl
 | 8, _ => exact h.cell rfl
 | 9, _ => exact h.cell rfl
 | 10, _ => exact h.cell rfl
 | 11, _ => exact h.cell rfl
 | 12, _ => exact h.cell rfl
 | 13, _ => exact h.cell rfl
 | (j + 14), hj => omega
theorem kern_ones (m : Md) (b2 b3 b4 b6 b7 b8 b12 b13 : Option Addr) (n2 e2 n3 e3 n4 e4 n6 e6 n7 e7 n8 e8 n12 e12 n13 e13 : Nat) (t q : Int) (f : Bool) (z : Int) : ∀ u ∈ ([.int .i64 m.n, .int .i64 m.s, .slice b2 n2 e2, .slice b3 n3 e3, .slice b4 n4 e4, .int .i64 z, .slice b6 n6 e6, .slice b7 n7 e7, .slice b8 n8 e8, .int .i64 t, .int .i64 q, .bool f, .slice b12 n12 e12, .slice b13 n13 e13] : List Value), u.oneCell' = true := by
 intro u hu
 simp only [List.mem_cons, List.not_mem_nil, or_false] at hu
 rcases hu with rfl | rfl | rfl | rfl | rfl | rfl | rfl | rfl | rfl | rfl | rfl | rfl | rfl | rfl <;> rfl
set_option maxHeartbeats 2000000 in
theorem kns_own {F : Nat → Prop} {w : World} {B : Nat} {T : TypeId} {v : Value} {k : Kn} {y0 y1 y2 y3 y4 y5 y6 y7 y8 y9 y10 y11 y12 y13 : Value} (ho : w.ownsRow B T 14 v (0 + 1) ([] ++ [y0, y1, y2, y3, y4, y5, y6, y7, y8, y9, y10, y11, y12, y13])) (hy : KernF F w (.agg #[y0, y1, y2, y3, y4, y5, y6, y7, y8, y9, y10, y11, y12, y13]) k) (hF : ∀ j, F j → v.ownBlock ≠ some j) :
  ∃ a c A, v = .slice a 1 c ∧ OwnD w A v (knsD [k]) ∧ ∀ j, A j → F j ∨ (B ≤ j ∧ j < w.heap.size) := by
 obtain ⟨hl, ⟨rfl, h0⟩ | ⟨g, cap, cur, rfl, hg, hc, h1, h2, h3, h4⟩⟩ := ho
 ·omega
 ·have hlt : g < w.heap.size := (Array.getElem?_eq_some_iff.1 hc).1
  refine ⟨_, _, _, rfl, kern_row (U := fun j => ([y0, y1, y2, y3, y4, y5, y6, y7, y8, y9, y10, y11, y12, y13] : List Value).getD j (.int .i64 0)) (cap := cap) hy (fun j hj => ?_) hlt (fun e => hF g e rfl) (by omega) h2, fun j hj => hj.imp id (fun e => by subst e; exact ⟨hg, hlt⟩)⟩
  refine ⟨?_, by simp [World.frozen?, hc]⟩
  have hj2 : j < cur.size := by rw [h3]; omega
  have h5 : cur.toList[j]? = ([y0, y1, y2, y3, y4, y5, y6, y7, y8, y9, y10, y11, y12, y13] : List Value)[j]? := by
   have h6 : ([] ++ [y0, y1, y2, y3, y4, y5, y6, y7, y8, y9, y10, y11, y12, y13] : List Value)[j]? = cur.toList[j]? := by rw [← h4, List.getElem?_take_of_lt (by omega)]
   rw [← h6]; rfl
  have h7 : j < ([y0, y1, y2, y3, y4, y5, y6, y7, y8, y9, y10, y11, y12, y13] : List Value).length := by simpa using hj
  rw [List.getElem?_eq_getElem h7] at h5
  show w.cell? ⟨g, j, none⟩ = _
  rw [show ([y0, y1, y2, y3, y4, y5, y6, y7, y8, y9, y10, y11, y12, y13] : List Value).getD j (.int .i64 0) = ([y0, y1, y2, y3, y4, y5, y6, y7, y8, y9, y10, y11, y12, y13] : List Value)[j] from by simp [List.getD, List.getElem?_eq_getElem h7]]
  rw [← h5]
  simp [World.cell?, hc]
theorem row_own {F : Nat → Prop} {w : World} {X : Nat} {T : TypeId} {k : Kn} {y0 y1 y2 y3 y4 y5 y6 y7 y8 y9 y10 y11 y12 y13 : Value} (hX : Bk w X T #[y0, y1, y2, y3, y4, y5, y6, y7, y8, y9, y10, y11, y12, y13]) (hy : KernF F w (.agg #[y0, y1, y2, y3, y4, y5, y6, y7, y8, y9, y10, y11, y12, y13]) k) (hF : ¬ F X) : OwnD w (fun j => F j ∨ j = X) (.slice (some ⟨X, 0, none⟩) 1 1) (knsD [k]) := by
 refine kern_row (U := fun j => ([y0, y1, y2, y3, y4, y5, y6, y7, y8, y9, y10, y11, y12, y13] : List Value).getD j (.int .i64 0)) hy (fun j hj => ?_) hX.lt hF (Nat.le_refl _) (by unfold maxLen; omega)
 match j, hj with
 | 0, _ => exact ⟨hX.cell rfl, hX.free _⟩
 | 1, _ => exact ⟨hX.cell rfl, hX.free _⟩
 | 2, _ => exact ⟨hX.cell rfl, hX.free _⟩
 | 3, _ => exact ⟨hX.cell rfl, hX.free _⟩
 | 4, _ => exact ⟨hX.cell rfl, hX.free _⟩
 | 5, _ => exact ⟨hX.cell rfl, hX.free _⟩
 | 6, _ => exact ⟨hX.cell rfl, hX.free _⟩
 | 7, _ => exact ⟨hX.cell rfl, hX.free _⟩
 | 8, _ => exact ⟨hX.cell rfl, hX.free _⟩
 | 9, _ => exact ⟨hX.cell rfl, hX.free _⟩
 | 10, _ => exact ⟨hX.cell rfl, hX.free _⟩
 | 11, _ => exact ⟨hX.cell rfl, hX.free _⟩
 | 12, _ => exact ⟨hX.cell rfl, hX.free _⟩
 | 13, _ => exact ⟨hX.cell rfl, hX.free _⟩
 | (j + 14), hj => omega
theorem KernF.under {F : Nat → Prop} {w w' : World} {y : Value} {k : Kn} (h : KernF F w y k) (hb : Below w.heap.size w w') : KernF F w' y k := h.turns (S := fun _ => False) (Turns.of_below hb) (fun _ _ => id)
theorem KernF.newForm' {F : Nat → Prop} {w : World} {y : Value} {m : Md} {d : List Int} (h : KernF F w y (newK m d)) : ∃ b2 e2 b3 e3 b4 e4 b6 e6 b7 e7 b8 e8 b12 e12 b13 e13, y = .agg #[.int .i64 m.n, .int .i64 m.s, .slice b2 m.i.length e2, .slice b3 m.h.length e3, .slice b4 m.e.length e4, .int .i64 m.z, .slice b6 d.length e6, .slice b7 m.n.toNat e7, .slice b8 0 e8, .int .i64 6, .int .i64 (-1), .bool false, .slice b12 0 e12, .slice b13 0 e13] := by
 obtain ⟨_, _, _, _, _, _, vi, vh, vs, u6, u7, u8, u12, u13, rfl, hm, h6, h7, h8, h12, h13, _⟩ := h
 obtain ⟨b2, e2, b3, e3, b4, e4, he⟩ := hm.form
 obtain ⟨b6, e6, rfl, _⟩ := IsD.len h6.isD
 obtain ⟨b7, e7, rfl, _⟩ := IsD.len h7.isD
 obtain ⟨b8, e8, rfl, _⟩ := IsD.len h8.isD
 obtain ⟨b12, e12, rfl, _⟩ := IsD.len h12.isD
 obtain ⟨b13, e13, rfl, _⟩ := IsD.len h13.isD
 simp at he
 obtain ⟨rfl, rfl, rfl⟩ := he
 refine ⟨b2, e2, b3, e3, b4, e4, b6, e6, b7, e7, b8, e8, b12, e12, b13, e13, ?_⟩
 simp [newK, newPs_len]
theorem infoKn : (Tryz.prog.info? 36).map (fun i => (i.zero, i.size, i.bytes)) = some (some (.agg #[.int .i64 0, .int .i64 0, .slice none 0 0, .slice none 0 0, .slice none 0 0, .int .i64 0, .slice none 0 0, .slice none 0 0, .slice none 0 0, .int .i64 0, .int .i64 0, .bool false, .slice none 0 0, .slice none 0 0]), 14, 240) := by kernel_rfl
end Go.Proofs.YthfhibnnkpbeiaaGreat

