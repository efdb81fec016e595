/- VOf, Kit, Quiet, VQuiet -/
import Derived.Test.YtmpoffepoafblaaGreatDecidesG01
import Derived.Deep.QuietTactic
import Derived.BigQuiet
/- Vectors: the program's vectorOf. -/
namespace Go.Proofs.YtmpoffepoafblaaGreat
open Go.RowKit
abbrev i64 (z : Int) : Value := .int .i64 z
abbrev vec (a b c d : Int) : Value := .agg #[i64 a, i64 b, i64 c, i64 d]
abbrev cell4 (a b c d : Int) : Obj := .cells #[i64 a, i64 b, i64 c, i64 d] 107
/- What vectorOf hands back for a list. -/
def vecOf (l : List Int) : Value := if vok l = true then vec (intAt l 0) (intAt l 1) (intAt l 2) (intAt l 3) else vec 0 0 0 0

theorem decOk {z : Int} (h0 : -1 ≤ z) (h1 : z ≤ 1) : (decide (-1 ≤ z) && decide (z ≤ 1)) = true := by simp [h0, h1]
theorem decNo {z : Int} (h : z < -1 ∨ 1 < z) : (decide (-1 ≤ z) && decide (z ≤ 1)) = false := by
  rw [Bool.and_eq_false_iff]; simp; omega

set_option maxHeartbeats 1000000 in
theorem of_at0 (b off cap : Nat) (x0 : Int) (w : World) (hb : b < w.heap.size) (h0 : w.cell? ⟨b, off, none⟩ = some (.int .i64 x0)) (d0 : (decide (-1 ≤ x0) && decide (x0 ≤ 1)) = false) :
    Calls Tryz.prog 66 #[.slice (some ⟨b, off, none⟩) 4 cap] w fun e w' => e = .returned (.tuple #[vec 0 0 0 0, .bool false]) ∧ Below w.heap.size w w' := by
  go_enter Tryz.func66, Tryz.ntmps66
  go_wp2
  go_loopw [13] (fun i wr => (i = .int .i64 0 ∧ wr = (w.alloc (cell4 0 0 0 0)).alloc (cell4 0 0 0 0))) (fun i _ => 4 - (intOf i).toNat)
  case atStart => exact ⟨rfl, rfl⟩
  case round =>
    rcases hrel with ⟨rfl, rfl⟩
    · go_wp2_with (go_at_call 68; refine (within_any x0 _ _ _).mono ?_; rintro e w' ⟨rfl, rfl⟩; rw [d0])
      exact bodyPost_ret (v := .tuple #[vec 0 0 0 0, .bool false]) (by simp [results, Tryz.results66, go_sem]) rfl ⟨rfl, ((Below.refl _ w).alloc (Nat.le_refl _) _).alloc (by simp) _⟩

set_option maxHeartbeats 1000000 in
theorem of_at1 (b off cap : Nat) (x0 x1 : Int) (w : World) (hb : b < w.heap.size) (h0 : w.cell? ⟨b, off, none⟩ = some (.int .i64 x0)) (h1 : w.cell? ⟨b, off + 1, none⟩ = some (.int .i64 x1)) (d0 : (decide (-1 ≤ x0) && decide (x0 ≤ 1)) = true) (d1 : (decide (-1 ≤ x1) && decide (x1 ≤ 1)) = false) :
    Calls Tryz.prog 66 #[.slice (some ⟨b, off, none⟩) 4 cap] w fun e w' => e = .returned (.tuple #[vec 0 0 0 0, .bool false]) ∧ Below w.heap.size w w' := by
  go_enter Tryz.func66, Tryz.ntmps66
  go_wp2
  go_loopw [13] (fun i wr => (i = .int .i64 0 ∧ wr = (w.alloc (cell4 0 0 0 0)).alloc (cell4 0 0 0 0)) ∨ (i = .int .i64 1 ∧ wr = (w.alloc (cell4 0 0 0 0)).alloc (cell4 x0 0 0 0))) (fun i _ => 4 - (intOf i).toNat)
  case atStart => exact .inl ⟨rfl, rfl⟩
  case round =>
    rcases hrel with ⟨rfl, rfl⟩ | ⟨rfl, rfl⟩
    · go_wp2_with (go_at_call 68; refine (within_any x0 _ _ _).mono ?_; rintro e w' ⟨rfl, rfl⟩; rw [d0])
      go_roundw
      case rel => exact .inr (⟨rfl, trivial⟩)
      case measure => simp [intOf]
    · go_wp2_with (go_at_call 68; refine (within_any x1 _ _ _).mono ?_; rintro e w' ⟨rfl, rfl⟩; rw [d1])
      exact bodyPost_ret (v := .tuple #[vec 0 0 0 0, .bool false]) (by simp [results, Tryz.results66, go_sem]) rfl ⟨rfl, ((Below.refl _ w).alloc (Nat.le_refl _) _).alloc (by simp) _⟩

set_option maxHeartbeats 1000000 in
theorem of_at2 (b off cap : Nat) (x0 x1 x2 : Int) (w : World) (hb : b < w.heap.size) (h0 : w.cell? ⟨b, off, none⟩ = some (.int .i64 x0)) (h1 : w.cell? ⟨b, off + 1, none⟩ = some (.int .i64 x1)) (h2 : w.cell? ⟨b, off + 2, none⟩ = some (.int .i64 x2)) (d0 : (decide (-1 ≤ x0) && decide (x0 ≤ 1)) = true) (d1 : (decide (-1 ≤ x1) && decide (x1 ≤ 1)) = true) (d2 : (decide (-1 ≤ x2) && decide (x2 ≤ 1)) = false) :
    Calls Tryz.prog 66 #[.slice (some ⟨b, off, none⟩) 4 cap] w fun e w' => e = .returned (.tuple #[vec 0 0 0 0, .bool false]) ∧ Below w.heap.size w w' := by
  go_enter Tryz.func66, Tryz.ntmps66
  go_wp2
  go_loopw [13] (fun i wr => (i = .int .i64 0 ∧ wr = (w.alloc (cell4 0 0 0 0)).alloc (cell4 0 0 0 0)) ∨ (i = .int .i64 1 ∧ wr = (w.alloc (cell4 0 0 0 0)).alloc (cell4 x0 0 0 0)) ∨ (i = .int .i64 2 ∧ wr = (w.alloc (cell4 0 0 0 0)).alloc (cell4 x0 x1 0 0))) (fun i _ => 4 - (intOf i).toNat)
  case atStart => exact .inl ⟨rfl, rfl⟩
  case round =>
    rcases hrel with ⟨rfl, rfl⟩ | ⟨rfl, rfl⟩ | ⟨rfl, rfl⟩
    · go_wp2_with (go_at_call 68; refine (within_any x0 _ _ _).mono ?_; rintro e w' ⟨rfl, rfl⟩; rw [d0])
      go_roundw
      case rel => exact .inr (.inl ⟨rfl, trivial⟩)
      case measure => simp [intOf]
    · go_wp2_with (go_at_call 68; refine (within_any x1 _ _ _).mono ?_; rintro e w' ⟨rfl, rfl⟩; rw [d1])
      go_roundw
      case rel => exact .inr (.inr (⟨rfl, trivial⟩))
      case measure => simp [intOf]
    · go_wp2_with (go_at_call 68; refine (within_any x2 _ _ _).mono ?_; rintro e w' ⟨rfl, rfl⟩; rw [d2])
      exact bodyPost_ret (v := .tuple #[vec 0 0 0 0, .bool false]) (by simp [results, Tryz.results66, go_sem]) rfl ⟨rfl, ((Below.refl _ w).alloc (Nat.le_refl _) _).alloc (by simp) _⟩

set_option maxHeartbeats 1000000 in
theorem of_at3 (b off cap : Nat) (x0 x1 x2 x3 : Int) (w : World) (hb : b < w.heap.size) (h0 : w.cell? ⟨b, off, none⟩ = some (.int .i64 x0)) (h1 : w.cell? ⟨b, off + 1, none⟩ = some (.int .i64 x1)) (h2 : w.cell? ⟨b, off + 2, none⟩ = some (.int .i64 x2)) (h3 : w.cell? ⟨b, off + 3, none⟩ = some (.int .i64 x3)) (d0 : (decide (-1 ≤ x0) && decide (x0 ≤ 1)) = true) (d1 : (decide (-1 ≤ x1) && decide (x1 ≤ 1)) = true) (d2 : (decide (-1 ≤ x2) && decide (x2 ≤ 1)) = true) (d3 : (decide (-1 ≤ x3) && decide (x3 ≤ 1)) = false) :
    Calls Tryz.prog 66 #[.slice (some ⟨b, off, none⟩) 4 cap] w fun e w' => e = .returned (.tuple #[vec 0 0 0 0, .bool false]) ∧ Below w.heap.size w w' := by
  go_enter Tryz.func66, Tryz.ntmps66
  go_wp2
  go_loopw [13] (fun i wr => (i = .int .i64 0 ∧ wr = (w.alloc (cell4 0 0 0 0)).alloc (cell4 0 0 0 0)) ∨ (i = .int .i64 1 ∧ wr = (w.alloc (cell4 0 0 0 0)).alloc (cell4 x0 0 0 0)) ∨ (i = .int .i64 2 ∧ wr = (w.alloc (cell4 0 0 0 0)).alloc (cell4 x0 x1 0 0)) ∨ (i = .int .i64 3 ∧ wr = (w.alloc (cell4 0 0 0 0)).alloc (cell4 x0 x1 x2 0))) (fun i _ => 4 - (intOf i).toNat)
  case atStart => exact .inl ⟨rfl, rfl⟩
  case round =>
    rcases hrel with ⟨rfl, rfl⟩ | ⟨rfl, rfl⟩ | ⟨rfl, rfl⟩ | ⟨rfl, rfl⟩
    · go_wp2_with (go_at_call 68; refine (within_any x0 _ _ _).mono ?_; rintro e w' ⟨rfl, rfl⟩; rw [d0])
      go_roundw
      case rel => exact .inr (.inl ⟨rfl, trivial⟩)
      case measure => simp [intOf]
    · go_wp2_with (go_at_call 68; refine (within_any x1 _ _ _).mono ?_; rintro e w' ⟨rfl, rfl⟩; rw [d1])
      go_roundw
      case rel => exact .inr (.inr (.inl ⟨rfl, trivial⟩))
      case measure => simp [intOf]
    · go_wp2_with (go_at_call 68; refine (within_any x2 _ _ _).mono ?_; rintro e w' ⟨rfl, rfl⟩; rw [d2])
      go_roundw
      case rel => exact .inr (.inr (.inr (⟨rfl, trivial⟩)))
      case measure => simp [intOf]
    · go_wp2_with (go_at_call 68; refine (within_any x3 _ _ _).mono ?_; rintro e w' ⟨rfl, rfl⟩; rw [d3])
      exact bodyPost_ret (v := .tuple #[vec 0 0 0 0, .bool false]) (by simp [results, Tryz.results66, go_sem]) rfl ⟨rfl, ((Below.refl _ w).alloc (Nat.le_refl _) _).alloc (by simp) _⟩

set_option maxHeartbeats 1000000 in
theorem of_at4 (b off cap : Nat) (x0 x1 x2 x3 : Int) (w : World) (hb : b < w.heap.size) (h0 : w.cell? ⟨b, off, none⟩ = some (.int .i64 x0)) (h1 : w.cell? ⟨b, off + 1, none⟩ = some (.int .i64 x1)) (h2 : w.cell? ⟨b, off + 2, none⟩ = some (.int .i64 x2)) (h3 : w.cell? ⟨b, off + 3, none⟩ = some (.int .i64 x3)) (d0 : (decide (-1 ≤ x0) && decide (x0 ≤ 1)) = true) (d1 : (decide (-1 ≤ x1) && decide (x1 ≤ 1)) = true) (d2 : (decide (-1 ≤ x2) && decide (x2 ≤ 1)) = true) (d3 : (decide (-1 ≤ x3) && decide (x3 ≤ 1)) = true) :
    Calls Tryz.prog 66 #[.slice (some ⟨b, off, none⟩) 4 cap] w fun e w' => e = .returned (.tuple #[vec x0 x1 x2 x3, .bool true]) ∧ Below w.heap.size w w' := by
  go_enter Tryz.func66, Tryz.ntmps66
  go_wp2
  go_loopw [13] (fun i wr => (i = .int .i64 0 ∧ wr = (w.alloc (cell4 0 0 0 0)).alloc (cell4 0 0 0 0)) ∨ (i = .int .i64 1 ∧ wr = (w.alloc (cell4 0 0 0 0)).alloc (cell4 x0 0 0 0)) ∨ (i = .int .i64 2 ∧ wr = (w.alloc (cell4 0 0 0 0)).alloc (cell4 x0 x1 0 0)) ∨ (i = .int .i64 3 ∧ wr = (w.alloc (cell4 0 0 0 0)).alloc (cell4 x0 x1 x2 0)) ∨ (i = .int .i64 4 ∧ wr = (w.alloc (cell4 0 0 0 0)).alloc (cell4 x0 x1 x2 x3))) (fun i _ => 4 - (intOf i).toNat)
  case atStart => exact .inl ⟨rfl, rfl⟩
  case round =>
    rcases hrel with ⟨rfl, rfl⟩ | ⟨rfl, rfl⟩ | ⟨rfl, rfl⟩ | ⟨rfl, rfl⟩ | ⟨rfl, rfl⟩
    · go_wp2_with (go_at_call 68; refine (within_any x0 _ _ _).mono ?_; rintro e w' ⟨rfl, rfl⟩; rw [d0])
      go_roundw
      case rel => exact .inr (.inl ⟨rfl, trivial⟩)
      case measure => simp [intOf]
    · go_wp2_with (go_at_call 68; refine (within_any x1 _ _ _).mono ?_; rintro e w' ⟨rfl, rfl⟩; rw [d1])
      go_roundw
      case rel => exact .inr (.inr (.inl ⟨rfl, trivial⟩))
      case measure => simp [intOf]
    · go_wp2_with (go_at_call 68; refine (within_any x2 _ _ _).mono ?_; rintro e w' ⟨rfl, rfl⟩; rw [d2])
      go_roundw
      case rel => exact .inr (.inr (.inr (.inl ⟨rfl, trivial⟩)))
      case measure => simp [intOf]
    · go_wp2_with (go_at_call 68; refine (within_any x3 _ _ _).mono ?_; rintro e w' ⟨rfl, rfl⟩; rw [d3])
      go_roundw
      case rel => exact .inr (.inr (.inr (.inr (⟨rfl, trivial⟩))))
      case measure => simp [intOf]
    · go_wp2
      exact bodyPost_ret (v := .tuple #[vec x0 x1 x2 x3, .bool true]) (by simp [results, Tryz.results66, go_sem]) rfl ⟨rfl, ((Below.refl _ w).alloc (Nat.le_refl _) _).alloc (by simp) _⟩

set_option maxHeartbeats 1000000 in
theorem of_long (a : Option Addr) (n cap : Nat) (w : World) (_hn : n ≤ 4611686018427387904) (h4 : ¬ (n : Int) = 4) :
    Calls Tryz.prog 66 #[.slice a n cap] w fun e w' => e = .returned (.tuple #[vec 0 0 0 0, .bool false]) ∧ Below w.heap.size w w' := by
  go_enter Tryz.func66, Tryz.ntmps66
  go_wp2
  exact bodyPost_ret (v := .tuple #[vec 0 0 0 0, .bool false]) (by simp [results, Tryz.results66, go_sem]) rfl ⟨rfl, (Below.refl _ w).alloc (Nat.le_refl _) _⟩

theorem vec_no {l : List Int} (h : vok l = false) : vecOf l = vec 0 0 0 0 := by simp [vecOf, h]
theorem of_any (x : Value) (l : List Int) (w : World) (hl : l.length ≤ 4611686018427387904) (h : IsI w x l) :
    Calls Tryz.prog 66 #[x] w fun e w' => e = .returned (.tuple #[vecOf l, .bool (vok l)]) ∧ Below w.heap.size w w' := by
  obtain ⟨a, cap, rfl, h1, h2, h⟩ := h
  by_cases h4 : l.length = 4
  · obtain ⟨b, off, rfl, hb, hc⟩ := h.resolve_left (by rintro rfl; simp at h4)
    have c0 := hc 0 (by omega)
    have c1 := hc 1 (by omega)
    have c2 := hc 2 (by omega)
    have c3 := hc 3 (by omega)
    rw [Nat.add_zero] at c0
    have no : ∀ k, k < 4 → (intAt l k < -1 ∨ 1 < intAt l k) → Ending.returned (.tuple #[vec 0 0 0 0, .bool false]) = .returned (.tuple #[vecOf l, .bool (vok l)]) := fun k hk hb => by
      have hv := vok_no (l := l) (k := k) (by omega) hb
      rw [vec_no hv, hv]
    rw [h4]
    by_cases e0 : intAt l 0 < -1 ∨ 1 < intAt l 0
    · exact (of_at0 b off cap _ w hb c0 (decNo e0)).mono fun e w' ⟨h, k⟩ => ⟨h.trans (no 0 (by omega) e0), k⟩
    by_cases e1 : intAt l 1 < -1 ∨ 1 < intAt l 1
    · exact (of_at1 b off cap _ _ w hb c0 c1 (decOk (by omega) (by omega)) (decNo e1)).mono fun e w' ⟨h, k⟩ => ⟨h.trans (no 1 (by omega) e1), k⟩
    by_cases e2 : intAt l 2 < -1 ∨ 1 < intAt l 2
    · exact (of_at2 b off cap _ _ _ w hb c0 c1 c2 (decOk (by omega) (by omega)) (decOk (by omega) (by omega)) (decNo e2)).mono fun e w' ⟨h, k⟩ => ⟨h.trans (no 2 (by omega) e2), k⟩
    by_cases e3 : intAt l 3 < -1 ∨ 1 < intAt l 3
    · exact (of_at3 b off cap _ _ _ _ w hb c0 c1 c2 c3 (decOk (by omega) (by omega)) (decOk (by omega) (by omega)) (decOk (by omega) (by omega)) (decNo e3)).mono fun e w' ⟨h, k⟩ => ⟨h.trans (no 3 (by omega) e3), k⟩
    have hv : vok l = true := by
      rw [vok_all (fun j hj => by
        have hj4 : j = 0 ∨ j = 1 ∨ j = 2 ∨ j = 3 := by omega
        rcases hj4 with rfl | rfl | rfl | rfl <;> omega)]
      simp [h4]
    refine (of_at4 b off cap _ _ _ _ w hb c0 c1 c2 c3 (decOk (by omega) (by omega)) (decOk (by omega) (by omega)) (decOk (by omega) (by omega)) (decOk (by omega) (by omega))).mono fun e w' ⟨h, k⟩ => ⟨h.trans ?_, k⟩
    simp [vecOf, hv]
  · have hv : vok l = false := by simp [vok, h4]
    refine (of_long a l.length cap w hl (by omega)).mono fun e w' ⟨h, k⟩ => ⟨h.trans ?_, k⟩
    rw [vec_no hv, hv]
end Go.Proofs.YtmpoffepoafblaaGreat

/- Small facts on worlds, and the order of two events. -/
namespace Go.Proofs.YtmpoffepoafblaaGreat
open Go.RowKit
def ecmp (t s q d k v g t' s' q' d' k' v' g' : Int) : Int := if okB t s q d k v g = true ∧ okB t' s' q' d' k' v' g' = true then cmpI t s q g t' s' q' g' else 0
theorem bcell {W w1 : World} (hb : Below W.heap.size W w1) : (∀ b o, b < W.heap.size → w1.cell? ⟨b, o, none⟩ = W.cell? ⟨b, o, none⟩) ∧ (∀ b o, b < W.heap.size → w1.frozen? ⟨b, o, none⟩ = W.frozen? ⟨b, o, none⟩) :=
  ⟨fun b o h => hb.cell (p := ⟨b, o, none⟩) h, fun b o h => hb.frozen (p := ⟨b, o, none⟩) h⟩
/- An event that lies at the head of a block, field by field. -/
structure EvAt (w : World) (b o : Nat) (t s q d k v g : Int) : Prop where
  f0 : w.cell? ⟨b, o, none⟩ = some (.int .i64 t)
  f1 : w.cell? ⟨b, o + 1, none⟩ = some (.int .i64 s)
  f2 : w.cell? ⟨b, o + 2, none⟩ = some (.int .i64 q)
  f3 : w.cell? ⟨b, o + 3, none⟩ = some (.int .i64 d)
  f4 : w.cell? ⟨b, o + 4, none⟩ = some (.int .i64 k)
  f5 : w.cell? ⟨b, o + 5, none⟩ = some (.int .i64 v)
  f6 : w.cell? ⟨b, o + 6, none⟩ = some (.int .i64 g)
theorem EvAt.below {w w' : World} {B b o : Nat} {t s q d k v g : Int} (h : EvAt w b o t s q d k v g) (hb : Below B w w') (hlt : b < B) : EvAt w' b o t s q d k v g :=
  ⟨(hb.cell hlt).trans h.f0, (hb.cell hlt).trans h.f1, (hb.cell hlt).trans h.f2, (hb.cell hlt).trans h.f3, (hb.cell hlt).trans h.f4, (hb.cell hlt).trans h.f5, (hb.cell hlt).trans h.f6⟩
theorem EvAt.new (w : World) (T : TypeId) (t s q d k v g : Int) : EvAt (w.alloc (.cells #[.int .i64 t, .int .i64 s, .int .i64 q, .int .i64 d, .int .i64 k, .int .i64 v, .int .i64 g] T)) w.heap.size 0 t s q d k v g := by
  constructor <;> simp
theorem EvAt.alloc {w : World} {b o : Nat} {t s q d k v g : Int} (h : EvAt w b o t s q d k v g) (hlt : b < w.heap.size) (x : Obj) : EvAt (w.alloc x) b o t s q d k v g :=
  h.below ((Below.refl _ w).alloc (Nat.le_refl _) x) hlt
theorem EvAt.lits {w : World} {b : Nat} {t s q d k v g : Int} (h : EvAt w b 0 t s q d k v g) : w.cell? ⟨b, 0, none⟩ = some (.int .i64 t) ∧ w.cell? ⟨b, 1, none⟩ = some (.int .i64 s) ∧ w.cell? ⟨b, 2, none⟩ = some (.int .i64 q) ∧ w.cell? ⟨b, 3, none⟩ = some (.int .i64 d) ∧ w.cell? ⟨b, 4, none⟩ = some (.int .i64 k) ∧ w.cell? ⟨b, 5, none⟩ = some (.int .i64 v) ∧ w.cell? ⟨b, 6, none⟩ = some (.int .i64 g) :=
  ⟨h.f0, h.f1, h.f2, h.f3, h.f4, h.f5, h.f6⟩
end Go.Proofs.YtmpoffepoafblaaGreat

/- A region that draws its order, whose operations only read and whose callees lay blocks of their own, is walked once, in the order of the text. -/
namespace Go.Proofs.YtmpoffepoafblaaGreat
open Go.RowKit
/- A world in which all that W had lies as it lay. -/
structure Beyond (W : World) where
  w : World
  h : Below W.heap.size W w
theorem Beyond.cell {W : World} (p : Beyond W) {b o : Nat} {v : Value} (hb : b < W.heap.size) (h : W.cell? ⟨b, o, none⟩ = some v) : p.w.cell? ⟨b, o, none⟩ = some v := (p.h.cell (p := ⟨b, o, none⟩) hb).trans h
theorem Beyond.of {P : Program} {f : FuncId} {args : Array Value} {W : World} {p : Beyond W} {v : Value} (h : Calls P f args p.w fun e w' => e = .returned v ∧ Below p.w.heap.size p.w w') :
    Calls P f args p.w fun e w'' => e = .returned v ∧ ∃ p' : Beyond W, w'' = p'.w :=
  h.mono fun _ w'' ⟨he, hb⟩ => ⟨he, ⟨w'', p.h.trans (hb.mono p.h.size)⟩, rfl⟩
theorem wp_region_beyond {P : Program} {id : Nat} {Q : Exit → Act → World → Prop} {a : Act} {W : World} {l : List Oper} (hm : P.follows .mixedOrders = true) (hB : Region.lexB .any l.toArray = true)
    (h : wpQuiet P l.toArray (fun w' => ∃ p : Beyond W, w' = p.w) (fun a' => ∀ w', (∃ p : Beyond W, w' = p.w) → Q .normal a' w') l a) : (Code.region id l.toArray true).wp P Q a W :=
  wp_region_quiet (C := fun w' => ∃ p : Beyond W, w' = p.w) hm hB ⟨⟨_, (Below.refl _ W).drew⟩, rfl⟩ (by simpa using h)
/- The seven cells of an event, in every world beyond. -/
theorem EvAt.beyond {W : World} {b o : Nat} {t s q d k v g : Int} (h : EvAt W b o t s q d k v g) (hb : b < W.heap.size) :
    (∀ p : Beyond W, p.w.cell? ⟨b, o, none⟩ = some (.int .i64 t)) ∧ (∀ p : Beyond W, p.w.cell? ⟨b, o + 1, none⟩ = some (.int .i64 s)) ∧ (∀ p : Beyond W, p.w.cell? ⟨b, o + 2, none⟩ = some (.int .i64 q)) ∧ (∀ p : Beyond W, p.w.cell? ⟨b, o + 3, none⟩ = some (.int .i64 d)) ∧
    (∀ p : Beyond W, p.w.cell? ⟨b, o + 4, none⟩ = some (.int .i64 k)) ∧ (∀ p : Beyond W, p.w.cell? ⟨b, o + 5, none⟩ = some (.int .i64 v)) ∧ (∀ p : Beyond W, p.w.cell? ⟨b, o + 6, none⟩ = some (.int .i64 g)) :=
  ⟨fun p => p.cell hb h.f0, fun p => p.cell hb h.f1, fun p => p.cell hb h.f2, fun p => p.cell hb h.f3, fun p => p.cell hb h.f4, fun p => p.cell hb h.f5, fun p => p.cell hb h.f6⟩
end Go.Proofs.YtmpoffepoafblaaGreat

/- A region that draws its order, whose operations only read and whose callees lay blocks of their own, is walked once, in the order of the text. -/
namespace Go.Proofs.YtmpoffepoafblaaGreat
open Go.RowKit
/- A world in which all that W had lies as it lay. -/
theorem Beyond.ints {W : World} {b off : Nat} {l : List Int} (h : IntsAt W b off l) {k : Nat} (hk : k < l.length) {z : Int} (hz : z = intAt l k) : ∀ p : Beyond W, p.w.cell? ⟨b, off + k, none⟩ = some (.int .i64 z) := fun p => hz ▸ p.cell h.1 (h.2 k hk)
theorem Beyond.ints0 {W : World} {b : Nat} {l : List Int} (h : IntsAt W b 0 l) {k : Nat} (hk : k < l.length) {z : Int} (hz : z = intAt l k) : ∀ p : Beyond W, p.w.cell? ⟨b, k, none⟩ = some (.int .i64 z) := fun p => by have := Beyond.ints h hk hz p; rwa [Nat.zero_add] at this
instance (W : World) : Nonempty (Beyond W) := ⟨⟨W, Below.refl _ _⟩⟩
end Go.Proofs.YtmpoffepoafblaaGreat

