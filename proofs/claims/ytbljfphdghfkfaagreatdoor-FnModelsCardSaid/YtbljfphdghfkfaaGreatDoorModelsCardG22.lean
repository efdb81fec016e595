/- SwapJ, Or, CmpI -/
import Derived.Test.YtbljfphdghfkfaaGreatDoorModelsCardLSwapI
import Derived.Test.YtbljfphdghfkfaaGreatDoorModelsCardG00
import Derived.Test.YtbljfphdghfkfaaGreatDoorModelsCardG07
import Derived.Test.YtbljfphdghfkfaaGreatDoorModelsCardG03
import Derived.Deep.RegionHeld3
import Derived.Deep.DeepMust
/- The pile's Swap, at one place or two. -/
namespace Go.Proofs.YtbljfphdghfkfaaGreatDoor
open Go.RowKit
set_option maxRecDepth 100000 in
set_option maxHeartbeats 4000000 in
theorem swap_eq (B P g cap : Nat) (l : List Ev) (i : Nat) (w : World) (hP : w.cell? ⟨P, 0, none⟩ = some (.slice (some ⟨g, 0, none⟩) l.length cap)) (hPg : P ≠ g) (hR : Row w B g cap l) (hi : i < l.length) :
  Calls Tryz.prog 190 #[.pointer (some ⟨P, 0, none⟩), .int .i64 (i : Int), .int .i64 (i : Int)] w fun e w' => (∃ v, e = .returned v) ∧ Row w' B g cap (swp l i i) ∧ Turns (fun b => b = g) w w' := by
 have HR : Hid (Row w B g cap l) := hR
 have hg : g < w.heap.size := hR.lt.2
 have hgP : ¬ g = P := fun e => hPg e.symm
 obtain ⟨⟨f0, f1, f2, f3, f4, f5, f6⟩, ⟨z0, z1, z2, z3, z4, z5, z6⟩⟩ := hR.cells7 hi
 have hi1 : (i : Int) < (l.length : Int) := by omega
 clear hR
 go_enter Tryz.func190, Tryz.ntmps190
 go_big_region
 go_end0
 refine ⟨⟨_, rfl⟩, (HR.out.swap hi hi).drew, Turns.drew ?_⟩
 exact ((Turns.refl (fun b => b = g) w).put (g := g) rfl (i * 7) (evAt l i)).put (g := g) rfl (i * 7) (evAt l i)
theorem swap_any (B P g cap : Nat) (l : List Ev) (i k : Nat) (w : World) (hP : w.cell? ⟨P, 0, none⟩ = some (.slice (some ⟨g, 0, none⟩) l.length cap)) (hPg : P ≠ g) (hR : Row w B g cap l) (hi : i < l.length) (hk : k < l.length) :
  Calls Tryz.prog 190 #[.pointer (some ⟨P, 0, none⟩), .int .i64 (i : Int), .int .i64 (k : Int)] w fun e w' => (∃ v, e = .returned v) ∧ Row w' B g cap (swp l i k) ∧ Turns (fun b => b = g) w w' := by
 by_cases h : i = k
 ·subst h; exact swap_eq B P g cap l i w hP hPg hR hi
 ·exact swap_ne B P g cap l i k w hP hPg hR hi hk h
end Go.Proofs.YtbljfphdghfkfaaGreatDoor

/- cmp.Or over a row of ints. -/
namespace Go.Proofs.YtbljfphdghfkfaaGreatDoor
open Go.RowKit
def orL : List Int → Int
 | [] => 0
 | x :: r => if x ≠ 0 then x else orL r
theorem orL_at (zs : List Int) (k : Nat) (hk : k < zs.length) (h0 : ∀ i, i < k → zs[i]?.getD 0 = 0) (hx : zs[k]?.getD 0 ≠ 0) : orL zs = zs[k]?.getD 0 := by
 induction zs generalizing k with
 | nil => simp at hk
 | cons x r ih =>
  cases k with
  | zero => simp at hx; simp [orL, hx]
  | succ k =>
   have hx0 : x = 0 := by simpa using h0 0 (by omega)
   simp only [orL, hx0]
   simpa using ih k (by simpa using hk) (fun i hi => by simpa using h0 (i + 1) (by omega)) (by simpa using hx)
theorem orL_none (zs : List Int) (h0 : ∀ i, i < zs.length → zs[i]?.getD 0 = 0) : orL zs = 0 := by
 induction zs with
 | nil => rfl
 | cons x r ih =>
  have hx0 : x = 0 := by simpa using h0 0 (by simp)
  simp only [orL, hx0]
  simpa using ih (fun i hi => by simpa using h0 (i + 1) (by simpa using hi))
set_option maxHeartbeats 400000 in
theorem or_any (b cap : Nat) (zs : List Int) (w : World) (hl : zs.length ≤ maxLen) (hc : ∀ i, i < zs.length → w.cell? ⟨b, i, none⟩ = some (.int .i64 (zs[i]?.getD 0))) :
  Calls Tryz.prog 193 #[.slice (some ⟨b, 0, none⟩) zs.length cap] w fun e w' => e = .returned (.int .i64 (orL zs)) ∧ w' = w := by
 unfold maxLen at hl
 go_enter Tryz.func193, Tryz.ntmps193
 go_wp2
 go_loop [8] (fun i => ∃ k : Nat, k ≤ zs.length ∧ i = .int .i64 k ∧ ∀ i, i < k → zs[i]?.getD 0 = 0) (fun i => zs.length - (intOf i).toNat)
 case atStart => exact ⟨0, Nat.zero_le _, rfl, fun i h => by omega⟩
 case round =>
  obtain ⟨k, hk, rfl, h0⟩ := hrel
  have H0 : Hid (∀ i, i < k → zs[i]?.getD 0 = 0) := h0
  clear h0
  by_cases hlt : k < zs.length
  ·have hck := hc k hlt
   have HC : Hid (∀ i, i < zs.length → w.cell? ⟨b, i, none⟩ = some (.int .i64 (zs[i]?.getD 0))) := hc
   clear hc
   generalize hx : zs[k]?.getD 0 = x at hck
   have HX : Hid (zs[k]?.getD 0 = x) := hx
   clear hx
   by_cases hz : x = 0
   ·subst hz
    go_wp2
    go_round
    case rel => exact ⟨k + 1, by omega, by go_num, fun i hi => by
     by_cases e : i = k
     ·subst e; exact HX.out
     ·exact H0.out i (by omega)⟩
    case measure => simp [intOf]; omega
   ·have hne : (x != 0) = true := by simpa using hz
    go_wp2
    go_ret
    exact ⟨ret_int (by rw [orL_at zs k hlt H0.out (by rw [HX.out]; exact hz), HX.out]), rfl⟩
  ·go_wp2
   go_ret
   exact ⟨ret_int (by rw [orL_none zs (fun i hi => H0.out i (by omega))]), rfl⟩
end Go.Proofs.YtbljfphdghfkfaaGreatDoor

/- The program's EventCmp. -/
namespace Go.Proofs.YtbljfphdghfkfaaGreatDoor
open Go.RowKit
theorem num_zero (a b : Int) : num a b = 0 ↔ a = b := by unfold num; split <;> (try split) <;> omega
theorem orL_cmp (t s q g t' s' q' g' : Int) : orL [num t t', num s s', num q q', num g g'] = cmpI t s q g t' s' q' g' := by
 unfold cmpI
 by_cases h1 : t = t'
 ·by_cases h2 : s = s'
  ·by_cases h3 : q = q'
   ·by_cases h4 : g = g' <;> simp [orL, num_zero, h1, h2, h3, h4]
    ·exact ((num_zero _ _).2 rfl).symm
   ·simp [orL, num_zero, h1, h2, h3]
  ·simp [orL, num_zero, h1, h2]
 ·simp [orL, num_zero, h1]
theorem iOk_is (t s q d k v g : Int) (b : Bool) (h : okB t s q d k v g = b) (w : World) :
  Calls Tryz.prog 66 #[.agg #[.int .i64 t, .int .i64 s, .int .i64 q, .int .i64 d, .int .i64 k, .int .i64 v, .int .i64 g]] w fun e w' => e = .returned (.bool b) ∧ Below w.heap.size w w' := by
 subst h; exact iOk_any t s q d k v g w
set_option maxHeartbeats 2000000 in
theorem iCmp_any (t s q d k v g t' s' q' d' k' v' g' : Int) (w : World) :
  Calls Tryz.prog 192 #[.agg #[.int .i64 t, .int .i64 s, .int .i64 q, .int .i64 d, .int .i64 k, .int .i64 v, .int .i64 g], .agg #[.int .i64 t', .int .i64 s', .int .i64 q', .int .i64 d', .int .i64 k', .int .i64 v', .int .i64 g']] w fun e w' =>
   e = .returned (.int .i64 (ecmp t s q d k v g t' s' q' d' k' v' g')) ∧ Below w.heap.size w w' := by
 cases h1 : okB t s q d k v g
 ·have H1 : Hid (okB t s q d k v g = false) := h1
  clear h1
  go_enter Tryz.func192, Tryz.ntmps192
  go_wp2_with fail
  refine (iOk_is t s q d k v g false H1.out _).mono ?_
  rintro e w1 ⟨rfl, hb1⟩
  go_wp2_with fail
  go_ret
  exact ⟨ret_int (by simp [ecmp, H1.out]), (((Below.refl _ _).alloc (Nat.le_refl _) _).alloc (by simp) _).trans (hb1.mono (by simp; omega))⟩
 ·have H1 : Hid (okB t s q d k v g = true) := h1
  clear h1
  cases h2 : okB t' s' q' d' k' v' g'
  ·have H2 : Hid (okB t' s' q' d' k' v' g' = false) := h2
   clear h2
   go_enter Tryz.func192, Tryz.ntmps192
   go_wp2_with fail
   refine (iOk_is t s q d k v g true H1.out _).mono ?_
   rintro e w1 ⟨rfl, hb1⟩
   obtain ⟨hc, hf⟩ := bcell hb1
   go_wp2_with fail
   refine (iOk_is t' s' q' d' k' v' g' false H2.out _).mono ?_
   rintro e w2 ⟨rfl, hb2⟩
   go_wp2_with fail
   go_ret
   exact ⟨ret_int (by simp [ecmp, H1.out, H2.out]), ((((Below.refl _ _).alloc (Nat.le_refl _) _).alloc (by simp) _).trans (hb1.mono (by simp; omega))).trans (hb2.mono (by have := hb1.size; simp at this; omega))⟩
  ·have H2 : Hid (okB t' s' q' d' k' v' g' = true) := h2
   clear h2
   go_enter Tryz.func192, Tryz.ntmps192
   go_wp2_with fail
   refine (iOk_is t s q d k v g true H1.out _).mono ?_
   rintro e w1 ⟨rfl, hb1⟩
   obtain ⟨hc, hf⟩ := bcell hb1
   go_wp2_with fail
   refine (iOk_is t' s' q' d' k' v' g' true H2.out _).mono ?_
   rintro e w2 ⟨rfl, hb2⟩
   have hz1 : w.heap.size + 1 < w1.heap.size := by have := hb1.size; simp at this; omega
   have hz2 : w.heap.size + 1 < w2.heap.size := by have := hb2.size; omega
   obtain ⟨hc2, hf2⟩ := bcell hb2
   have f0 : w2.cell? ⟨w.heap.size, 0, none⟩ = some (.int .i64 t) := by rw [hc2 _ _ (by omega), hc _ _ (by simp; omega)]; simp
   have f1 : w2.cell? ⟨w.heap.size, 1, none⟩ = some (.int .i64 s) := by rw [hc2 _ _ (by omega), hc _ _ (by simp; omega)]; simp
   have f2 : w2.cell? ⟨w.heap.size, 2, none⟩ = some (.int .i64 q) := by rw [hc2 _ _ (by omega), hc _ _ (by simp; omega)]; simp
   have f6 : w2.cell? ⟨w.heap.size, 6, none⟩ = some (.int .i64 g) := by rw [hc2 _ _ (by omega), hc _ _ (by simp; omega)]; simp
   have e0 : w2.cell? ⟨w.heap.size + 1, 0, none⟩ = some (.int .i64 t') := by rw [hc2 _ _ (by omega), hc _ _ (by simp)]; simp
   have e1 : w2.cell? ⟨w.heap.size + 1, 1, none⟩ = some (.int .i64 s') := by rw [hc2 _ _ (by omega), hc _ _ (by simp)]; simp
   have e2 : w2.cell? ⟨w.heap.size + 1, 2, none⟩ = some (.int .i64 q') := by rw [hc2 _ _ (by omega), hc _ _ (by simp)]; simp
   have e6 : w2.cell? ⟨w.heap.size + 1, 6, none⟩ = some (.int .i64 g') := by rw [hc2 _ _ (by omega), hc _ _ (by simp)]; simp
   have hB : Below w.heap.size w w2 := ((((Below.refl _ _).alloc (Nat.le_refl _) _).alloc (by simp) _).trans (hb1.mono (by simp; omega))).trans (hb2.mono (by omega))
   clear hc hf hc2 hf2 hb1 hb2 hz1
   go_wp2_with fail
   go_region_held3 (fun W => W.cell? ⟨w.heap.size, 0, none⟩ = some (.int .i64 t) ∧ W.cell? ⟨w.heap.size, 1, none⟩ = some (.int .i64 s) ∧ W.cell? ⟨w.heap.size, 2, none⟩ = some (.int .i64 q) ∧ W.cell? ⟨w.heap.size, 6, none⟩ = some (.int .i64 g) ∧ W.cell? ⟨w.heap.size + 1, 0, none⟩ = some (.int .i64 t') ∧ W.cell? ⟨w.heap.size + 1, 1, none⟩ = some (.int .i64 s') ∧ W.cell? ⟨w.heap.size + 1, 2, none⟩ = some (.int .i64 q') ∧ W.cell? ⟨w.heap.size + 1, 6, none⟩ = some (.int .i64 g')) (go_keep)
    (first
     | (go_at_call 194; refine (compare_any _ _ _).mono ?_; rintro e w' ⟨rfl, rfl⟩)
     | (go_at_call 193; refine (or_any _ _ [num t t', num s s', num q q', num g g'] _ ?_ ?_).mono ?_; (simp [maxLen]); (intro i hi; have h4 : i = 0 ∨ i = 1 ∨ i = 2 ∨ i = 3 := (by simp at hi; omega); rcases h4 with rfl | rfl | rfl | rfl <;> simp); rintro e w' ⟨rfl, rfl⟩))
   go_wp2
   go_ret
   exact ⟨ret_int (by rw [orL_cmp]; simp [ecmp, H1.out, H2.out]), hB.drew.alloc (by simp; omega) _⟩
end Go.Proofs.YtbljfphdghfkfaaGreatDoor

