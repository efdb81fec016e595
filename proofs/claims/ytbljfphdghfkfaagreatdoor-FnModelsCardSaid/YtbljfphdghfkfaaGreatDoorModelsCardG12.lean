/- VOf, EMth -/
import Derived.Test.YtbljfphdghfkfaaGreatDoorModelsCardG11
import Derived.Test.YtbljfphdghfkfaaGreatDoorModelsCardG03
import Derived.Deep.RegionHeld3
import Derived.BigRegion
/- Vectors: the program's vectorOf. -/
namespace Go.Proofs.YtbljfphdghfkfaaGreatDoor
open Go.RowKit
abbrev i64 (z : Int) : Value := .int .i64 z
abbrev vec (a b c d : Int) : Value := .agg #[i64 a, i64 b, i64 c, i64 d]
abbrev cell4 (a b c d : Int) : Obj := .cells #[i64 a, i64 b, i64 c, i64 d] 90
def vecOf (l : List Int) : Value := if vok l = true then vec (intAt l 0) (intAt l 1) (intAt l 2) (intAt l 3) else vec 0 0 0 0
theorem decOk {z : Int} (h0 : -1 ≤ z) (h1 : z ≤ 1) : (decide (-1 ≤ z) && decide (z ≤ 1)) = true := by simp [h0, h1]
theorem decNo {z : Int} (h : z < -1 ∨ 1 < z) : (decide (-1 ≤ z) && decide (z ≤ 1)) = false := by
 rw [Bool.and_eq_false_iff]; simp; omega
set_option maxHeartbeats 1000000 in
theorem of_at0 (b off cap : Nat) (x0 : Int) (w : World) (hb : b < w.heap.size) (h0 : w.cell? ⟨b, off, none⟩ = some (.int .i64 x0)) (d0 : (decide (-1 ≤ x0) && decide (x0 ≤ 1)) = false) :
  Calls Tryz.prog 52 #[.slice (some ⟨b, off, none⟩) 4 cap] w fun e w' => e = .returned (.tuple #[vec 0 0 0 0, .bool false]) ∧ Below w.heap.size w w' := by
 go_enter Tryz.func52, Tryz.ntmps52
 go_wp2
 go_loopw [13] (fun i wr => (i = .int .i64 0 ∧ wr = (w.alloc (cell4 0 0 0 0)).alloc (cell4 0 0 0 0))) (fun i _ => 4 - (intOf i).toNat)
 case atStart => exact ⟨rfl, rfl⟩
 case round =>
  rcases hrel with ⟨rfl, rfl⟩
  ·go_wp2_with (go_at_call 31; refine (within_any x0 _ _ _).mono ?_; rintro e w' ⟨rfl, rfl⟩; rw [d0])
   exact bodyPost_ret (v := .tuple #[vec 0 0 0 0, .bool false]) (by simp [results, Tryz.results52, go_sem]) rfl ⟨rfl, ((Below.refl _ w).alloc (Nat.le_refl _) _).alloc (by simp) _⟩
set_option maxHeartbeats 1000000 in
theorem of_at1 (b off cap : Nat) (x0 x1 : Int) (w : World) (hb : b < w.heap.size) (h0 : w.cell? ⟨b, off, none⟩ = some (.int .i64 x0)) (h1 : w.cell? ⟨b, off + 1, none⟩ = some (.int .i64 x1)) (d0 : (decide (-1 ≤ x0) && decide (x0 ≤ 1)) = true) (d1 : (decide (-1 ≤ x1) && decide (x1 ≤ 1)) = false) :
  Calls Tryz.prog 52 #[.slice (some ⟨b, off, none⟩) 4 cap] w fun e w' => e = .returned (.tuple #[vec 0 0 0 0, .bool false]) ∧ Below w.heap.size w w' := by
 go_enter Tryz.func52, Tryz.ntmps52
 go_wp2
 go_loopw [13] (fun i wr => (i = .int .i64 0 ∧ wr = (w.alloc (cell4 0 0 0 0)).alloc (cell4 0 0 0 0)) ∨ (i = .int .i64 1 ∧ wr = (w.alloc (cell4 0 0 0 0)).alloc (cell4 x0 0 0 0))) (fun i _ => 4 - (intOf i).toNat)
 case atStart => exact .inl ⟨rfl, rfl⟩
 case round =>
  rcases hrel with ⟨rfl, rfl⟩ | ⟨rfl, rfl⟩
  ·go_wp2_with (go_at_call 31; refine (within_any x0 _ _ _).mono ?_; rintro e w' ⟨rfl, rfl⟩; rw [d0])
   go_roundw
   case rel => exact .inr (⟨rfl, trivial⟩)
   case measure => simp [intOf]
  ·go_wp2_with (go_at_call 31; refine (within_any x1 _ _ _).mono ?_; rintro e w' ⟨rfl, rfl⟩; rw [d1])
   exact bodyPost_ret (v := .tuple #[vec 0 0 0 0, .bool false]) (by simp [results, Tryz.results52, go_sem]) rfl ⟨rfl, ((Below.refl _ w).alloc (Nat.le_refl _) _).alloc (by simp) _⟩
set_option maxHeartbeats 1000000 in
theorem of_at2 (b off cap : Nat) (x0 x1 x2 : Int) (w : World) (hb : b < w.heap.size) (h0 : w.cell? ⟨b, off, none⟩ = some (.int .i64 x0)) (h1 : w.cell? ⟨b, off + 1, none⟩ = some (.int .i64 x1)) (h2 : w.cell? ⟨b, off + 2, none⟩ = some (.int .i64 x2)) (d0 : (decide (-1 ≤ x0) && decide (x0 ≤ 1)) = true) (d1 : (decide (-1 ≤ x1) && decide (x1 ≤ 1)) = true) (d2 : (decide (-1 ≤ x2) && decide (x2 ≤ 1)) = false) :
  Calls Tryz.prog 52 #[.slice (some ⟨b, off, none⟩) 4 cap] w fun e w' => e = .returned (.tuple #[vec 0 0 0 0, .bool false]) ∧ Below w.heap.size w w' := by
 go_enter Tryz.func52, Tryz.ntmps52
 go_wp2
 go_loopw [13] (fun i wr => (i = .int .i64 0 ∧ wr = (w.alloc (cell4 0 0 0 0)).alloc (cell4 0 0 0 0)) ∨ (i = .int .i64 1 ∧ wr = (w.alloc (cell4 0 0 0 0)).alloc (cell4 x0 0 0 0)) ∨ (i = .int .i64 2 ∧ wr = (w.alloc (cell4 0 0 0 0)).alloc (cell4 x0 x1 0 0))) (fun i _ => 4 - (intOf i).toNat)
 case atStart => exact .inl ⟨rfl, rfl⟩
 case round =>
  rcases hrel with ⟨rfl, rfl⟩ | ⟨rfl, rfl⟩ | ⟨rfl, rfl⟩
  ·go_wp2_with (go_at_call 31; refine (within_any x0 _ _ _).mono ?_; rintro e w' ⟨rfl, rfl⟩; rw [d0])
   go_roundw
   case rel => exact .inr (.inl ⟨rfl, trivial⟩)
   case measure => simp [intOf]
  ·go_wp2_with (go_at_call 31; refine (within_any x1 _ _ _).mono ?_; rintro e w' ⟨rfl, rfl⟩; rw [d1])
   go_roundw
   case rel => exact .inr (.inr (⟨rfl, trivial⟩))
   case measure => simp [intOf]
  ·go_wp2_with (go_at_call 31; refine (within_any x2 _ _ _).mono ?_; rintro e w' ⟨rfl, rfl⟩; rw [d2])
   exact bodyPost_ret (v := .tuple #[vec 0 0 0 0, .bool false]) (by simp [results, Tryz.results52, go_sem]) rfl ⟨rfl, ((Below.refl _ w).alloc (Nat.le_refl _) _).alloc (by simp) _⟩
set_option maxHeartbeats 1000000 in
theorem of_at3 (b off cap : Nat) (x0 x1 x2 x3 : Int) (w : World) (hb : b < w.heap.size) (h0 : w.cell? ⟨b, off, none⟩ = some (.int .i64 x0)) (h1 : w.cell? ⟨b, off + 1, none⟩ = some (.int .i64 x1)) (h2 : w.cell? ⟨b, off + 2, none⟩ = some (.int .i64 x2)) (h3 : w.cell? ⟨b, off + 3, none⟩ = some (.int .i64 x3)) (d0 : (decide (-1 ≤ x0) && decide (x0 ≤ 1)) = true) (d1 : (decide (-1 ≤ x1) && decide (x1 ≤ 1)) = true) (d2 : (decide (-1 ≤ x2) && decide (x2 ≤ 1)) = true) (d3 : (decide (-1 ≤ x3) && decide (x3 ≤ 1)) = false) :
  Calls Tryz.prog 52 #[.slice (some ⟨b, off, none⟩) 4 cap] w fun e w' => e = .returned (.tuple #[vec 0 0 0 0, .bool false]) ∧ Below w.heap.size w w' := by
 go_enter Tryz.func52, Tryz.ntmps52
 go_wp2
 go_loopw [13] (fun i wr => (i = .int .i64 0 ∧ wr = (w.alloc (cell4 0 0 0 0)).alloc (cell4 0 0 0 0)) ∨ (i = .int .i64 1 ∧ wr = (w.alloc (cell4 0 0 0 0)).alloc (cell4 x0 0 0 0)) ∨ (i = .int .i64 2 ∧ wr = (w.alloc (cell4 0 0 0 0)).alloc (cell4 x0 x1 0 0)) ∨ (i = .int .i64 3 ∧ wr = (w.alloc (cell4 0 0 0 0)).alloc (cell4 x0 x1 x2 0))) (fun i _ => 4 - (intOf i).toNat)
 case atStart => exact .inl ⟨rfl, rfl⟩
 case round =>
  rcases hrel with ⟨rfl, rfl⟩ | ⟨rfl, rfl⟩ | ⟨rfl, rfl⟩ | ⟨rfl, rfl⟩
  ·go_wp2_with (go_at_call 31; refine (within_any x0 _ _ _).mono ?_; rintro e w' ⟨rfl, rfl⟩; rw [d0])
   go_roundw
   case rel => exact .inr (.inl ⟨rfl, trivial⟩)
   case measure => simp [intOf]
  ·go_wp2_with (go_at_call 31; refine (within_any x1 _ _ _).mono ?_; rintro e w' ⟨rfl, rfl⟩; rw [d1])
   go_roundw
   case rel => exact .inr (.inr (.inl ⟨rfl, trivial⟩))
   case measure => simp [intOf]
  ·go_wp2_with (go_at_call 31; refine (within_any x2 _ _ _).mono ?_; rintro e w' ⟨rfl, rfl⟩; rw [d2])
   go_roundw
   case rel => exact .inr (.inr (.inr (⟨rfl, trivial⟩)))
   case measure => simp [intOf]
  ·go_wp2_with (go_at_call 31; refine (within_any x3 _ _ _).mono ?_; rintro e w' ⟨rfl, rfl⟩; rw [d3])
   exact bodyPost_ret (v := .tuple #[vec 0 0 0 0, .bool false]) (by simp [results, Tryz.results52, go_sem]) rfl ⟨rfl, ((Below.refl _ w).alloc (Nat.le_refl _) _).alloc (by simp) _⟩
set_option maxHeartbeats 1000000 in
theorem of_at4 (b off cap : Nat) (x0 x1 x2 x3 : Int) (w : World) (hb : b < w.heap.size) (h0 : w.cell? ⟨b, off, none⟩ = some (.int .i64 x0)) (h1 : w.cell? ⟨b, off + 1, none⟩ = some (.int .i64 x1)) (h2 : w.cell? ⟨b, off + 2, none⟩ = some (.int .i64 x2)) (h3 : w.cell? ⟨b, off + 3, none⟩ = some (.int .i64 x3)) (d0 : (decide (-1 ≤ x0) && decide (x0 ≤ 1)) = true) (d1 : (decide (-1 ≤ x1) && decide (x1 ≤ 1)) = true) (d2 : (decide (-1 ≤ x2) && decide (x2 ≤ 1)) = true) (d3 : (decide (-1 ≤ x3) && decide (x3 ≤ 1)) = true) :
  Calls Tryz.prog 52 #[.slice (some ⟨b, off, none⟩) 4 cap] w fun e w' => e = .returned (.tuple #[vec x0 x1 x2 x3, .bool true]) ∧ Below w.heap.size w w' := by
 go_enter Tryz.func52, Tryz.ntmps52
 go_wp2
 go_loopw [13] (fun i wr => (i = .int .i64 0 ∧ wr = (w.alloc (cell4 0 0 0 0)).alloc (cell4 0 0 0 0)) ∨ (i = .int .i64 1 ∧ wr = (w.alloc (cell4 0 0 0 0)).alloc (cell4 x0 0 0 0)) ∨ (i = .int .i64 2 ∧ wr = (w.alloc (cell4 0 0 0 0)).alloc (cell4 x0 x1 0 0)) ∨ (i = .int .i64 3 ∧ wr = (w.alloc (cell4 0 0 0 0)).alloc (cell4 x0 x1 x2 0)) ∨ (i = .int .i64 4 ∧ wr = (w.alloc (cell4 0 0 0 0)).alloc (cell4 x0 x1 x2 x3))) (fun i _ => 4 - (intOf i).toNat)
 case atStart => exact .inl ⟨rfl, rfl⟩
 case round =>
  rcases hrel with ⟨rfl, rfl⟩ | ⟨rfl, rfl⟩ | ⟨rfl, rfl⟩ | ⟨rfl, rfl⟩ | ⟨rfl, rfl⟩
  ·go_wp2_with (go_at_call 31; refine (within_any x0 _ _ _).mono ?_; rintro e w' ⟨rfl, rfl⟩; rw [d0])
   go_roundw
   case rel => exact .inr (.inl ⟨rfl, trivial⟩)
   case measure => simp [intOf]
  ·go_wp2_with (go_at_call 31; refine (within_any x1 _ _ _).mono ?_; rintro e w' ⟨rfl, rfl⟩; rw [d1])
   go_roundw
   case rel => exact .inr (.inr (.inl ⟨rfl, trivial⟩))
   case measure => simp [intOf]
  ·go_wp2_with (go_at_call 31; refine (within_any x2 _ _ _).mono ?_; rintro e w' ⟨rfl, rfl⟩; rw [d2])
   go_roundw
   case rel => exact .inr (.inr (.inr (.inl ⟨rfl, trivial⟩)))
   case measure => simp [intOf]
  ·go_wp2_with (go_at_call 31; refine (within_any x3 _ _ _).mono ?_; rintro e w' ⟨rfl, rfl⟩; rw [d3])
   go_roundw
   case rel => exact .inr (.inr (.inr (.inr (⟨rfl, trivial⟩))))
   case measure => simp [intOf]
  ·go_wp2
   exact bodyPost_ret (v := .tuple #[vec x0 x1 x2 x3, .bool true]) (by simp [results, Tryz.results52, go_sem]) rfl ⟨rfl, ((Below.refl _ w).alloc (Nat.le_refl _) _).alloc (by simp) _⟩
set_option maxHeartbeats 1000000 in
theorem of_long (a : Option Addr) (n cap : Nat) (w : World) (_hn : n ≤ 4611686018427387904) (h4 : ¬ (n : Int) = 4) :
  Calls Tryz.prog 52 #[.slice a n cap] w fun e w' => e = .returned (.tuple #[vec 0 0 0 0, .bool false]) ∧ Below w.heap.size w w' := by
 go_enter Tryz.func52, Tryz.ntmps52
 go_wp2
 exact bodyPost_ret (v := .tuple #[vec 0 0 0 0, .bool false]) (by simp [results, Tryz.results52, go_sem]) rfl ⟨rfl, (Below.refl _ w).alloc (Nat.le_refl _) _⟩
theorem vec_no {l : List Int} (h : vok l = false) : vecOf l = vec 0 0 0 0 := by simp [vecOf, h]
theorem of_any (x : Value) (l : List Int) (w : World) (hl : l.length ≤ 4611686018427387904) (h : IsI w x l) :
  Calls Tryz.prog 52 #[x] w fun e w' => e = .returned (.tuple #[vecOf l, .bool (vok l)]) ∧ Below w.heap.size w w' := by
 obtain ⟨a, cap, rfl, h1, h2, h⟩ := h
 by_cases h4 : l.length = 4
 ·obtain ⟨b, off, rfl, hb, hc⟩ := h.resolve_left (by rintro rfl; simp at h4)
  have c0 := hc 0 (by omega)
  have c1 := hc 1 (by omega)
  have c2 := hc 2 (by omega)
  have c3 := hc 3 (by omega)
  rw [Nat.add_zero] at c0
  have no : ∀ k, k < 4 → (intAt l k < -1 ∨ 1 < intAt l k) → Ending.returned (.tuple #[vec 0 0 0 0, .bool false]) = .returned (.tuple #[vecOf l, .bool (vok l)]) := fun k hk hb => by
   have hv := vok_no (l := l) (k := k) (by omega) hb
   rw [vec_no hv, hv]
  rw [h4]
  by_cases e0 : intAt l 0 < -1 ∨ 1 < intAt l 0
  ·exact (of_at0 b off cap _ w hb c0 (decNo e0)).mono fun e w' ⟨h, k⟩ => ⟨h.trans (no 0 (by omega) e0), k⟩
  by_cases e1 : intAt l 1 < -1 ∨ 1 < intAt l 1
  ·exact (of_at1 b off cap _ _ w hb c0 c1 (decOk (by omega) (by omega)) (decNo e1)).mono fun e w' ⟨h, k⟩ => ⟨h.trans (no 1 (by omega) e1), k⟩
  by_cases e2 : intAt l 2 < -1 ∨ 1 < intAt l 2
  ·exact (of_at2 b off cap _ _ _ w hb c0 c1 c2 (decOk (by omega) (by omega)) (decOk (by omega) (by omega)) (decNo e2)).mono fun e w' ⟨h, k⟩ => ⟨h.trans (no 2 (by omega) e2), k⟩
  by_cases e3 : intAt l 3 < -1 ∨ 1 < intAt l 3
  ·exact (of_at3 b off cap _ _ _ _ w hb c0 c1 c2 c3 (decOk (by omega) (by omega)) (decOk (by omega) (by omega)) (decOk (by omega) (by omega)) (decNo e3)).mono fun e w' ⟨h, k⟩ => ⟨h.trans (no 3 (by omega) e3), k⟩
  have hv : vok l = true := by
   rw [vok_all (fun j hj => by
    have hj4 : j = 0 ∨ j = 1 ∨ j = 2 ∨ j = 3 := by omega
    rcases hj4 with rfl | rfl | rfl | rfl <;> omega)]
   simp [h4]
  refine (of_at4 b off cap _ _ _ _ w hb c0 c1 c2 c3 (decOk (by omega) (by omega)) (decOk (by omega) (by omega)) (decOk (by omega) (by omega)) (decOk (by omega) (by omega))).mono fun e w' ⟨h, k⟩ => ⟨h.trans ?_, k⟩
  simp [vecOf, hv]
 ·have hv : vok l = false := by simp [vok, h4]
  refine (of_long a l.length cap w hl (by omega)).mono fun e w' ⟨h, k⟩ => ⟨h.trans ?_, k⟩
  rw [vec_no hv, hv]
end Go.Proofs.YtbljfphdghfkfaaGreatDoor

/- The methods of a part's turn: what each op does. -/
namespace Go.Proofs.YtbljfphdghfkfaaGreatDoor
open Go.RowKit
abbrev preT (n s z : Int) (vi vh vs : Value) (c0 c1 c2 c3 : Int) (e : Ev) : List Value :=
 [.int .i64 n, .int .i64 s, vi, vh, vs, .int .i64 z, .int .i64 c0, .int .i64 c1, .int .i64 c2, .int .i64 c3, .int .i64 e.t, .int .i64 e.s, .int .i64 e.q, .int .i64 e.d, .int .i64 e.k, .int .i64 e.v, .int .i64 e.g]
def Keeps (w w' : World) : Prop := ∀ (K : Nat) (T : TypeId) (vs : Array Value), T ≠ 3 ∧ T ≠ 53 ∧ T ≠ 108 ∧ T ≠ 175 → Bk w K T vs → Bk w' K T vs
theorem Keeps.trans {a b c : World} (h : Keeps a b) (h' : Keeps b c) : Keeps a c := fun K T vs hT hb => h' K T vs hT (h K T vs hT hb)
theorem keeps_alloc (w : World) (o : Obj) : Keeps w (w.alloc o) := fun _ _ _ _ hb => hb.alloc o
theorem keeps_drew (w : World) : Keeps w w.drew := fun _ _ _ _ hb => hb
theorem keeps_below {w w' : World} (h : Below w.heap.size w w') : Keeps w w' := fun _ _ _ _ hb => hb.below h
theorem Eff.keepG {B P : Nat} {w : World} {T : TypeId} {pre : List Value} {t : Tn} {k : Int} {g cap : Nat} {us ux : Value} (h : Eff B w P T pre t k g cap us ux) (i : Nat) (u : Value) : Keeps w (w.setCell ⟨g, i, none⟩ u) :=
 fun _ _ _ hT hb => hb.grown (setCell_grown w g i u) (hb.off h.r (Ne.symm hT.1))
theorem Eff.keepP {B P : Nat} {w : World} {pre : List Value} {t : Tn} {k : Int} {g cap : Nat} {us ux : Value} (h : Eff B w P 175 pre t k g cap us ux) (i : Nat) (u : Value) : Keeps w (w.setCell ⟨P, i, none⟩ u) :=
 fun K T vs hT hb => hb.grown (setCell_grown w P i u) (fun e => by
  cases e
  have h1 : w.heap[P]? = some (.cells vs T) := hb
  have h2 := h.blk
  unfold Bk at h2
  rw [h1] at h2
  cases h2
  exact hT.2.2.2 rfl)
theorem keeps_sent {B n : Nat} {w w1 : World} {us : Value} {cs : List Value} (h : w.ownsRow B 53 7 us n cs) (hg : w.grownBy w1 us.ownBlock) : Keeps w w1 := fun _ _ _ hT hb => hb.grown hg (hb.off h (Ne.symm hT.2.1))
theorem keeps_told {B n : Nat} {w w1 : World} {us : Value} {cs : List Value} (h : w.ownsRow B 108 3 us n cs) (hg : w.grownBy w1 us.ownBlock) : Keeps w w1 := fun _ _ _ hT hb => hb.grown hg (hb.off h (Ne.symm hT.2.2.1))
def MPost (B P : Nat) (w : World) (pre : List Value) (t' : Tn) (k' pass : Int) (r : Ending) (w' : World) : Prop :=
 r = .returned (.int .i64 pass) ∧ (∃ g cap us ux, Eff B w' P 175 pre t' k' g cap us ux) ∧ Below B w w' ∧ Keeps w w'
def vecAt (c0 c1 c2 c3 : Int) (i : Int) : Int := if i = 0 then c0 else if i = 1 then c1 else if i = 2 then c2 else c3
theorem Eff.ne {B P : Nat} {w : World} {T : TypeId} {pre : List Value} {t : Tn} {k : Int} {g cap : Nat} {us ux : Value} (h : Eff B w P T pre t k g cap us ux) : P ≠ g := fun e => by
 have := h.blk.off h.r h.ty.1
 subst e
 exact this rfl
theorem Eff.le {B P : Nat} {w : World} {T : TypeId} {pre : List Value} {t : Tn} {k : Int} {g cap : Nat} {us ux : Value} (h : Eff B w P T pre t k g cap us ux) : B ≤ w.heap.size ∧ P < w.heap.size := ⟨by have := h.lo; have := h.blk.lt; omega, h.blk.lt⟩
set_option maxRecDepth 100000 in
set_option maxHeartbeats 2000000 in
theorem raise_any (B P : Nat) (n s z : Int) (vi vh vs : Value) (c0 c1 c2 c3 : Int) (e : Ev) (t : Tn) (k : Int) (g cap : Nat) (us ux : Value) (i : Nat) (hi : i ≤ 1) (y : Int) (hr0 : 0 ≤ t.reg i) (hr1 : t.reg i ≤ 999) (hy0 : 0 ≤ y) (hy1 : y ≤ 999) (w : World) (h : Eff B w P 175 (preT n s z vi vh vs c0 c1 c2 c3 e) t k g cap us ux) :
  Calls Tryz.prog 117 #[.pointer (some ⟨P, 0, none⟩), .int .i64 i, .int .i64 y] w fun r w' => r = .returned (.tuple #[]) ∧ w' = w.setCell ⟨g, i, none⟩ (.int .i64 ((t.reg i + y) % 1000)) := by
 have q17 : w.cell? ⟨P, 17, none⟩ = some (vReg g cap) := h.blk.cell (i := 17) rfl
 have r0 := h.reg i hi
 have rf := h.free i
 have hm : Int.tmod (t.reg i + y) 1000 = (t.reg i + y) % 1000 := Int.tmod_eq_emod_of_nonneg (by omega)
 generalize t.reg i = x at *
 have hi2 : (i : Int) < 2 := by omega
 clear h
 go_enter Tryz.func117, Tryz.ntmps117
 go_wp2
 go_end0
 exact ⟨rfl, rfl⟩
theorem far_eq {w w1 : World} {b o g i : Nat} {u x : Value} (hw : w1 = w.setCell ⟨g, i, none⟩ u) (hne : b ≠ g) (h : w.cell? ⟨b, o, none⟩ = some x) : w1.cell? ⟨b, o, none⟩ = some x := by
 subst hw
 exact (World.cell?_of_block (Below.heap_setCell _ _ _ _ hne)).trans h
set_option maxRecDepth 100000 in
set_option maxHeartbeats 4000000 in
theorem add_any (B P : Nat) (n s z : Int) (vi vh vs : Value) (c0 c1 c2 c3 : Int) (e : Ev) (t : Tn) (k : Int) (g cap : Nat) (us ux : Value) (o : O) (j : Nat) (gt : GoodT t j) (ha0 : 0 ≤ o.a) (ha1 : o.a ≤ 1) (hb0 : 0 ≤ o.b) (hb1 : o.b ≤ 999) (w : World) (h : Eff B w P 175 (preT n s z vi vh vs c0 c1 c2 c3 e) t k g cap us ux) :
  Calls Tryz.prog 106 #[.pointer (some ⟨P, 0, none⟩), .agg #[.int .i64 o.c, .int .i64 o.a, .int .i64 o.b, .int .i64 o.k]] w (MPost B P w (preT n s z vi vh vs c0 c1 c2 c3 e) (t.put o.a ((t.reg o.a + o.b) % 1000)) k 0) := by
 obtain ⟨hBw, hPw⟩ := h.le
 obtain ⟨hgB, hgw⟩ := h.glo
 have hne := h.ne
 obtain ⟨W0, hW0⟩ : ∃ W0, w.alloc (.cells #[.int .i64 o.c, .int .i64 o.a, .int .i64 o.b, .int .i64 o.k] 39) = W0 := ⟨_, rfl⟩
 have HE : Hid (Eff B W0 P 175 (preT n s z vi vh vs c0 c1 c2 c3 e) t k g cap us ux) := hW0 ▸ h.alloc _
 have HB : Hid (Below B w W0) := hW0 ▸ (Below.refl B w).alloc hBw _
 have HK : Hid (Keeps w W0) := hW0 ▸ keeps_alloc w _
 have HP : Hid (Bk W0 w.heap.size 39 #[.int .i64 o.c, .int .i64 o.a, .int .i64 o.b, .int .i64 o.k]) := hW0 ▸ Bk.new w _ _
 have hsz : w.heap.size < W0.heap.size := HP.out.lt
 have p1 : W0.cell? ⟨w.heap.size, 1, none⟩ = some (.int .i64 o.a) := HP.out.cell (i := 1) rfl
 have p2 : W0.cell? ⟨w.heap.size, 2, none⟩ = some (.int .i64 o.b) := HP.out.cell (i := 2) rfl
 have p3 : W0.cell? ⟨w.heap.size, 3, none⟩ = some (.int .i64 o.k) := HP.out.cell (i := 3) rfl
 clear h
 obtain ⟨i, hi⟩ : ∃ i : Nat, o.a = (i : Int) := ⟨(o.a).toNat, by omega⟩
 have hi1 : i ≤ 1 := by omega
 obtain ⟨hr0, hr1⟩ := gt.reg (i : Int)
 rw [hi] at p1 hW0 ⊢
 go_enter Tryz.func106, Tryz.ntmps106
 go_wp2_with fail
 clear hW0 p1 p2 p3
 refine (raise_any B P n s z vi vh vs c0 c1 c2 c3 e t k g cap us ux i hi1 o.b hr0 hr1 hb0 hb1 W0 HE.out).mono ?_
 rintro r w1 ⟨rfl, rfl⟩
 go_wp2
 go_ret
 exact ⟨rfl, ⟨g, cap, us, ux, HE.out.put i hi1 _⟩, HB.out.setCell (p := ⟨g, i, none⟩) hgB _, HK.out.trans (HE.out.keepG i _)⟩
set_option maxRecDepth 100000 in
set_option maxHeartbeats 4000000 in
theorem take_any (B P : Nat) (n s z : Int) (vi vh vs : Value) (c0 c1 c2 c3 : Int) (e : Ev) (t : Tn) (k : Int) (g cap : Nat) (us ux : Value) (o : O) (j : Nat) (gt : GoodT t j) (ha0 : 0 ≤ o.a) (ha1 : o.a ≤ 1) (hv0 : 0 ≤ e.v) (hv1 : e.v ≤ 999) (w : World) (h : Eff B w P 175 (preT n s z vi vh vs c0 c1 c2 c3 e) t k g cap us ux) :
  Calls Tryz.prog 107 #[.pointer (some ⟨P, 0, none⟩), .agg #[.int .i64 o.c, .int .i64 o.a, .int .i64 o.b, .int .i64 o.k]] w (MPost B P w (preT n s z vi vh vs c0 c1 c2 c3 e) (t.put o.a ((t.reg o.a + e.v) % 1000)) k 0) := by
 obtain ⟨hBw, hPw⟩ := h.le
 obtain ⟨hgB, hgw⟩ := h.glo
 have hne := h.ne
 obtain ⟨W0, hW0⟩ : ∃ W0, w.alloc (.cells #[.int .i64 o.c, .int .i64 o.a, .int .i64 o.b, .int .i64 o.k] 39) = W0 := ⟨_, rfl⟩
 have HE : Hid (Eff B W0 P 175 (preT n s z vi vh vs c0 c1 c2 c3 e) t k g cap us ux) := hW0 ▸ h.alloc _
 have HB : Hid (Below B w W0) := hW0 ▸ (Below.refl B w).alloc hBw _
 have HK : Hid (Keeps w W0) := hW0 ▸ keeps_alloc w _
 have HP : Hid (Bk W0 w.heap.size 39 #[.int .i64 o.c, .int .i64 o.a, .int .i64 o.b, .int .i64 o.k]) := hW0 ▸ Bk.new w _ _
 have hsz : w.heap.size < W0.heap.size := HP.out.lt
 have p1 : W0.cell? ⟨w.heap.size, 1, none⟩ = some (.int .i64 o.a) := HP.out.cell (i := 1) rfl
 have p2 : W0.cell? ⟨w.heap.size, 2, none⟩ = some (.int .i64 o.b) := HP.out.cell (i := 2) rfl
 have p3 : W0.cell? ⟨w.heap.size, 3, none⟩ = some (.int .i64 o.k) := HP.out.cell (i := 3) rfl
 clear h
 obtain ⟨i, hi⟩ : ∃ i : Nat, o.a = (i : Int) := ⟨(o.a).toNat, by omega⟩
 have hi1 : i ≤ 1 := by omega
 obtain ⟨hr0, hr1⟩ := gt.reg (i : Int)
 have q15 : W0.cell? ⟨P, 15, none⟩ = some (.int .i64 e.v) := HE.out.blk.cell (i := 15) rfl
 rw [hi] at p1 hW0 ⊢
 have hng : w.heap.size ≠ g := by omega
 have p1d : W0.drew.cell? ⟨w.heap.size, 1, none⟩ = some (.int .i64 i) := p1
 have q15d : W0.drew.cell? ⟨P, 15, none⟩ = some (.int .i64 e.v) := q15
 clear p2 p3
 go_enter Tryz.func107, Tryz.ntmps107
 go_wp2
 clear hW0
 go_region_held3 (fun W => W.cell? ⟨w.heap.size, 1, none⟩ = some (.int .i64 i) ∧ W.cell? ⟨P, 15, none⟩ = some (.int .i64 e.v)) (first | exact ⟨p1d, q15d⟩ | exact ⟨k1, k15⟩)
  (first | (go_at_call 117; refine (raise_any B P n s z vi vh vs c0 c1 c2 c3 e t k g cap us ux i hi1 e.v hr0 hr1 hv0 hv1 _ HE.out.drew).mono ?_; rintro r w1 ⟨rfl, hw1⟩; have k1 := far_eq hw1 hng p1d; have k15 := far_eq hw1 hne q15d; have HW : Hid (w1 = W0.drew.setCell ⟨g, i, none⟩ (.int .i64 ((t.reg i + e.v) % 1000))) := hw1; clear hw1))
 go_wp2
 go_ret
 rw [HW.out]
 exact ⟨rfl, ⟨g, cap, us, ux, HE.out.drew.put i hi1 _⟩, HB.out.drew.setCell (p := ⟨g, i, none⟩) hgB _, HK.out.trans (HE.out.drew.keepG i _)⟩
set_option maxRecDepth 100000 in
set_option maxHeartbeats 4000000 in
theorem skip_any (B P : Nat) (n s z : Int) (vi vh vs : Value) (c0 c1 c2 c3 : Int) (e : Ev) (t : Tn) (k : Int) (g cap : Nat) (us ux : Value) (o : O) (j : Nat) (gt : GoodT t j) (ha0 : 0 ≤ o.a) (ha1 : o.a ≤ 1) (w : World) (h : Eff B w P 175 (preT n s z vi vh vs c0 c1 c2 c3 e) t k g cap us ux) :
  Calls Tryz.prog 109 #[.pointer (some ⟨P, 0, none⟩), .agg #[.int .i64 o.c, .int .i64 o.a, .int .i64 o.b, .int .i64 o.k]] w (MPost B P w (preT n s z vi vh vs c0 c1 c2 c3 e) t k (if t.reg o.a < o.b then o.k else 0)) := by
 obtain ⟨hBw, hPw⟩ := h.le
 obtain ⟨hgB, hgw⟩ := h.glo
 have hne := h.ne
 obtain ⟨W0, hW0⟩ : ∃ W0, w.alloc (.cells #[.int .i64 o.c, .int .i64 o.a, .int .i64 o.b, .int .i64 o.k] 39) = W0 := ⟨_, rfl⟩
 have HE : Hid (Eff B W0 P 175 (preT n s z vi vh vs c0 c1 c2 c3 e) t k g cap us ux) := hW0 ▸ h.alloc _
 have HB : Hid (Below B w W0) := hW0 ▸ (Below.refl B w).alloc hBw _
 have HK : Hid (Keeps w W0) := hW0 ▸ keeps_alloc w _
 have HP : Hid (Bk W0 w.heap.size 39 #[.int .i64 o.c, .int .i64 o.a, .int .i64 o.b, .int .i64 o.k]) := hW0 ▸ Bk.new w _ _
 have hsz : w.heap.size < W0.heap.size := HP.out.lt
 have p1 : W0.cell? ⟨w.heap.size, 1, none⟩ = some (.int .i64 o.a) := HP.out.cell (i := 1) rfl
 have p2 : W0.cell? ⟨w.heap.size, 2, none⟩ = some (.int .i64 o.b) := HP.out.cell (i := 2) rfl
 have p3 : W0.cell? ⟨w.heap.size, 3, none⟩ = some (.int .i64 o.k) := HP.out.cell (i := 3) rfl
 clear h
 obtain ⟨i, hi⟩ : ∃ i : Nat, o.a = (i : Int) := ⟨(o.a).toNat, by omega⟩
 have hi1 : i ≤ 1 := by omega
 obtain ⟨hr0, hr1⟩ := gt.reg (i : Int)
 have q17 : W0.cell? ⟨P, 17, none⟩ = some (vReg g cap) := HE.out.blk.cell (i := 17) rfl
 have r0 := HE.out.reg i hi1
 rw [hi] at p1 hW0 ⊢
 have hi2 : (i : Int) < 2 := by omega
 generalize t.reg i = x at *
 clear hi
 by_cases hx : x < o.b
 ·rw [if_pos hx]
  go_enter Tryz.func109, Tryz.ntmps109
  go_wp2
  clear hW0
  go_region
  all_goals go_wp2
  all_goals
   go_ret
   exact ⟨rfl, ⟨g, cap, us, ux, HE.out.drew⟩, HB.out.drew, HK.out⟩
 ·have hx2 : decide (x < o.b) = false := decide_eq_false hx
  rw [if_neg hx]
  go_enter Tryz.func109, Tryz.ntmps109
  go_wp2
  clear hW0
  go_region
  all_goals go_wp2
  all_goals
   go_ret
   exact ⟨rfl, ⟨g, cap, us, ux, HE.out.drew⟩, HB.out.drew, HK.out⟩
set_option maxRecDepth 100000 in
set_option maxHeartbeats 4000000 in
theorem ask_wait (B P : Nat) (n s z : Int) (vi vh vs : Value) (c0 c1 c2 c3 : Int) (e : Ev) (t : Tn) (k : Int) (g cap : Nat) (us ux : Value) (o : O) (ha0 : 0 ≤ o.a) (ha1 : o.a ≤ 3) (hb0 : 0 ≤ o.b) (hb1 : o.b ≤ 1) (hx : vecAt c0 c1 c2 c3 o.a = -1) (w : World) (h : Eff B w P 175 (preT n s z vi vh vs c0 c1 c2 c3 e) t k g cap us ux) :
  Calls Tryz.prog 110 #[.pointer (some ⟨P, 0, none⟩), .agg #[.int .i64 o.c, .int .i64 o.a, .int .i64 o.b, .int .i64 o.k]] w (MPost B P w (preT n s z vi vh vs c0 c1 c2 c3 e) t o.a (-1)) := by
 obtain ⟨hBw, hPw⟩ := h.le
 obtain ⟨hgB, hgw⟩ := h.glo
 have hne := h.ne
 obtain ⟨W0, hW0⟩ : ∃ W0, w.alloc (.cells #[.int .i64 o.c, .int .i64 o.a, .int .i64 o.b, .int .i64 o.k] 39) = W0 := ⟨_, rfl⟩
 have HE : Hid (Eff B W0 P 175 (preT n s z vi vh vs c0 c1 c2 c3 e) t k g cap us ux) := hW0 ▸ h.alloc _
 have HB : Hid (Below B w W0) := hW0 ▸ (Below.refl B w).alloc hBw _
 have HK : Hid (Keeps w W0) := hW0 ▸ keeps_alloc w _
 have HP : Hid (Bk W0 w.heap.size 39 #[.int .i64 o.c, .int .i64 o.a, .int .i64 o.b, .int .i64 o.k]) := hW0 ▸ Bk.new w _ _
 have hsz : w.heap.size < W0.heap.size := HP.out.lt
 have p1 : W0.cell? ⟨w.heap.size, 1, none⟩ = some (.int .i64 o.a) := HP.out.cell (i := 1) rfl
 have p2 : W0.cell? ⟨w.heap.size, 2, none⟩ = some (.int .i64 o.b) := HP.out.cell (i := 2) rfl
 have p3 : W0.cell? ⟨w.heap.size, 3, none⟩ = some (.int .i64 o.k) := HP.out.cell (i := 3) rfl
 clear h
 obtain ⟨a, ha⟩ : ∃ a : Nat, o.a = (a : Int) := ⟨o.a.toNat, by omega⟩
 obtain ⟨i, hi⟩ : ∃ i : Nat, o.b = (i : Int) := ⟨o.b.toNat, by omega⟩
 have ha3 : a ≤ 3 := by omega
 have hi1 : i ≤ 1 := by omega
 have hi2 : (i : Int) < 2 := by omega
 have ha4 : (a : Int) < 4 := by omega
 have v0 : W0.cell? ⟨P, 6 + a, none⟩ = some (.int .i64 (vecAt c0 c1 c2 c3 a)) := by
  match a, ha3 with
  | 0, _ => exact HE.out.blk.cell (i := 6) rfl
  | 1, _ => exact HE.out.blk.cell (i := 7) rfl
  | 2, _ => exact HE.out.blk.cell (i := 8) rfl
  | 3, _ => exact HE.out.blk.cell (i := 9) rfl
 have q17 : W0.cell? ⟨P, 17, none⟩ = some (vReg g cap) := HE.out.blk.cell (i := 17) rfl
 have q22 : W0.cell? ⟨P, 22, none⟩ = some (.int .i64 k) := HE.out.blk.cell (i := 22) rfl
 have bf := HE.out.blk.free
 have r0 := HE.out.reg i hi1
 have rf := HE.out.free i
 rw [ha] at p1 hx ⊢
 rw [hi] at p2 ⊢
 rw [ha, hi] at hW0
 clear ha hi ha0 ha1 hb0 hb1 HP
 generalize vecAt c0 c1 c2 c3 a = x at hx v0 ⊢
 go_enter Tryz.func110, Tryz.ntmps110
 go_wp2
 clear hW0
 go_region
 all_goals go_wp2
 all_goals
  go_ret
  exact ⟨rfl, ⟨g, cap, us, ux, HE.out.drew.putK _⟩, HB.out.drew.setCell (p := ⟨P, 22, none⟩) HE.out.lo _, HK.out.trans (HE.out.drew.keepP 22 _)⟩
set_option maxRecDepth 100000 in
set_option maxHeartbeats 4000000 in
theorem ask_made (B P : Nat) (n s z : Int) (vi vh vs : Value) (c0 c1 c2 c3 : Int) (e : Ev) (t : Tn) (k : Int) (g cap : Nat) (us ux : Value) (o : O) (ha0 : 0 ≤ o.a) (ha1 : o.a ≤ 3) (hb0 : 0 ≤ o.b) (hb1 : o.b ≤ 1) (hx : ¬ vecAt c0 c1 c2 c3 o.a = -1) (w : World) (h : Eff B w P 175 (preT n s z vi vh vs c0 c1 c2 c3 e) t k g cap us ux) :
  Calls Tryz.prog 110 #[.pointer (some ⟨P, 0, none⟩), .agg #[.int .i64 o.c, .int .i64 o.a, .int .i64 o.b, .int .i64 o.k]] w (MPost B P w (preT n s z vi vh vs c0 c1 c2 c3 e) (t.put o.b (vecAt c0 c1 c2 c3 o.a)) k 0) := by
 obtain ⟨hBw, hPw⟩ := h.le
 obtain ⟨hgB, hgw⟩ := h.glo
 have hne := h.ne
 obtain ⟨W0, hW0⟩ : ∃ W0, w.alloc (.cells #[.int .i64 o.c, .int .i64 o.a, .int .i64 o.b, .int .i64 o.k] 39) = W0 := ⟨_, rfl⟩
 have HE : Hid (Eff B W0 P 175 (preT n s z vi vh vs c0 c1 c2 c3 e) t k g cap us ux) := hW0 ▸ h.alloc _
 have HB : Hid (Below B w W0) := hW0 ▸ (Below.refl B w).alloc hBw _
 have HK : Hid (Keeps w W0) := hW0 ▸ keeps_alloc w _
 have HP : Hid (Bk W0 w.heap.size 39 #[.int .i64 o.c, .int .i64 o.a, .int .i64 o.b, .int .i64 o.k]) := hW0 ▸ Bk.new w _ _
 have hsz : w.heap.size < W0.heap.size := HP.out.lt
 have p1 : W0.cell? ⟨w.heap.size, 1, none⟩ = some (.int .i64 o.a) := HP.out.cell (i := 1) rfl
 have p2 : W0.cell? ⟨w.heap.size, 2, none⟩ = some (.int .i64 o.b) := HP.out.cell (i := 2) rfl
 have p3 : W0.cell? ⟨w.heap.size, 3, none⟩ = some (.int .i64 o.k) := HP.out.cell (i := 3) rfl
 clear h
 obtain ⟨a, ha⟩ : ∃ a : Nat, o.a = (a : Int) := ⟨o.a.toNat, by omega⟩
 obtain ⟨i, hi⟩ : ∃ i : Nat, o.b = (i : Int) := ⟨o.b.toNat, by omega⟩
 have ha3 : a ≤ 3 := by omega
 have hi1 : i ≤ 1 := by omega
 have hi2 : (i : Int) < 2 := by omega
 have ha4 : (a : Int) < 4 := by omega
 have v0 : W0.cell? ⟨P, 6 + a, none⟩ = some (.int .i64 (vecAt c0 c1 c2 c3 a)) := by
  match a, ha3 with
  | 0, _ => exact HE.out.blk.cell (i := 6) rfl
  | 1, _ => exact HE.out.blk.cell (i := 7) rfl
  | 2, _ => exact HE.out.blk.cell (i := 8) rfl
  | 3, _ => exact HE.out.blk.cell (i := 9) rfl
 have q17 : W0.cell? ⟨P, 17, none⟩ = some (vReg g cap) := HE.out.blk.cell (i := 17) rfl
 have q22 : W0.cell? ⟨P, 22, none⟩ = some (.int .i64 k) := HE.out.blk.cell (i := 22) rfl
 have bf := HE.out.blk.free
 have r0 := HE.out.reg i hi1
 have rf := HE.out.free i
 rw [ha] at p1 hx ⊢
 rw [hi] at p2 ⊢
 rw [ha, hi] at hW0
 clear ha hi ha0 ha1 hb0 hb1 HP
 generalize vecAt c0 c1 c2 c3 a = x at hx v0 ⊢
 go_enter Tryz.func110, Tryz.ntmps110
 go_wp2
 clear hW0
 go_region
 all_goals go_wp2
 all_goals go_region
 all_goals go_wp2
 all_goals
  go_ret
  exact ⟨rfl, ⟨g, cap, us, ux, HE.out.drew.drew.put i hi1 _⟩, HB.out.drew.drew.setCell (p := ⟨g, i, none⟩) hgB _, HK.out.trans (HE.out.drew.drew.keepG i _)⟩
end Go.Proofs.YtbljfphdghfkfaaGreatDoor

