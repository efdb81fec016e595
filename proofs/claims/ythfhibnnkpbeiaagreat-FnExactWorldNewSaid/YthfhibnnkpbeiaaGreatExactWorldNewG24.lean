/- EvOk, Pair, Or, CmpI, InOrd, PIr, PIs -/
import Derived.Test.YthfhibnnkpbeiaaGreatExactWorldNewG23
import Derived.Test.YthfhibnnkpbeiaaGreatExactWorldNewG16
import Derived.Test.YthfhibnnkpbeiaaGreatExactWorldNewG18
import Derived.Test.YthfhibnnkpbeiaaGreatExactWorldNewG01
import Derived.Deep.RegionHeld3
import Derived.Deep.DeepMust
import Derived.Test.YthfhibnnkpbeiaaGreatExactWorldNewG06
import Derived.Test.YthfhibnnkpbeiaaGreatExactWorldNewG07
/- The program's eventsOk. -/
namespace Go.Proofs.YthfhibnnkpbeiaaGreat
open Go.RowKit Go.Shelf
attribute [local go_sem] Oper.semAt_some
theorem keepsOthers_of_below {W W' : World} (h : Below W.heap.size W W') : KeepsOthers W W' := ⟨h.size, fun k _ hk _ => (h.block k (Array.getElem?_eq_some_iff.1 hk).1).trans hk⟩
end Go.Proofs.YthfhibnnkpbeiaaGreat

/- The program's iterator over the neighbours of a list. -/
namespace Go.Proofs.YthfhibnnkpbeiaaGreat
open Go.RowKit Go.Shelf
attribute [local go_sem] Oper.semAt_some
end Go.Proofs.YthfhibnnkpbeiaaGreat

/- cmp.Or over a row of ints. -/
namespace Go.Proofs.YthfhibnnkpbeiaaGreat
open Go.RowKit
theorem hidOr {p : Prop} (h : p) : Hid p := h
def orL : List Int → Int
 | [] => 0
 | x :: r => if x ≠ 0 then x else orL r
theorem orL_at (zs : List Int) (k : Nat) (hk : k < zs.length) (h0 : ∀ i, i < k → zs[i]?.getD 0 = 0) (hx : zs[k]?.getD 0 ≠ 0) : orL zs = zs[k]?.getD 0 := by
 induction zs generalizing k with
 | nil => simp at hk
 | cons x r ih =>
  cases k with
  | zero => simp at hx; simp [orL, hx]
  | succ k =>
   have hx0 : x = 0 := by simpa using h0 0 (by omega)
   simp only [orL, hx0]
   simpa using ih k (by simpa using hk) (fun i hi => by simpa using h0 (i + 1) (by omega)) (by simpa using hx)
theorem orL_none (zs : List Int) (h0 : ∀ i, i < zs.length → zs[i]?.getD 0 = 0) : orL zs = 0 := by
 induction zs with
 | nil => rfl
 | cons x r ih =>
  have hx0 : x = 0 := by simpa using h0 0 (by simp)
  simp only [orL, hx0]
  simpa using ih (fun i hi => by simpa using h0 (i + 1) (by simpa using hi))
set_option maxHeartbeats 400000 in
theorem or_any (b cap : Nat) (zs : List Int) (w : World) (hl : zs.length ≤ maxLen) (hc : ∀ i, i < zs.length → w.cell? ⟨b, i, none⟩ = some (.int .i64 (zs[i]?.getD 0))) :
  Calls Tryz.prog 106 #[.slice (some ⟨b, 0, none⟩) zs.length cap] w fun e w' => e = .returned (.int .i64 (orL zs)) ∧ w' = w := by
 unfold maxLen at hl
 go_enter Tryz.func106, Tryz.ntmps106
 go_wp2
 go_loop [8] (fun i => ∃ k : Nat, k ≤ zs.length ∧ i = .int .i64 k ∧ ∀ i, i < k → zs[i]?.getD 0 = 0) (fun i => zs.length - (intOf i).toNat)
 case atStart => exact ⟨0, Nat.zero_le _, rfl, fun i h => by omega⟩
 case round =>
  obtain ⟨k, hk, rfl, h0⟩ := hrel
  have H0 := hidOr h0
  clear h0
  by_cases hlt : k < zs.length
  ·have hck := hc k hlt
   have HC := hidOr hc
   clear hc
   generalize hx : zs[k]?.getD 0 = x at hck
   have HX : Hid (zs[k]?.getD 0 = x) := hx
   clear hx
   by_cases hz : x = 0
   ·subst hz
    go_wp2
    go_round
    case rel => exact ⟨k + 1, by omega, by go_num, fun i hi => by
     by_cases e : i = k
     ·subst e; exact HX.out
     ·exact H0.out i (by omega)⟩
    case measure => simp [intOf]; omega
   ·have hne : (x != 0) = true := by simpa using hz
    go_wp2
    go_ret
    exact ⟨ret_int (by rw [orL_at zs k hlt H0.out (by rw [HX.out]; exact hz), HX.out]), rfl⟩
  ·go_wp2
   go_ret
   exact ⟨ret_int (by rw [orL_none zs (fun i hi => H0.out i (by omega))]), rfl⟩
end Go.Proofs.YthfhibnnkpbeiaaGreat

/- The program's EventCmp. -/
namespace Go.Proofs.YthfhibnnkpbeiaaGreat
open Go.RowKit
theorem num_zero (a b : Int) : num a b = 0 ↔ a = b := by unfold num; split <;> (try split) <;> omega
theorem orL_cmp (t s q g t' s' q' g' : Int) : orL [num t t', num s s', num q q', num g g'] = cmpI t s q g t' s' q' g' := by
 unfold cmpI
 by_cases h1 : t = t'
 ·by_cases h2 : s = s'
  ·by_cases h3 : q = q'
   ·by_cases h4 : g = g' <;> simp [orL, num_zero, h1, h2, h3, h4]
    ·exact ((num_zero _ _).2 rfl).symm
   ·simp [orL, num_zero, h1, h2, h3]
  ·simp [orL, num_zero, h1, h2]
 ·simp [orL, num_zero, h1]
end Go.Proofs.YthfhibnnkpbeiaaGreat

/- The program's inOrder. -/
namespace Go.Proofs.YthfhibnnkpbeiaaGreat
open Go.RowKit Go.Shelf
attribute [local go_sem] Oper.semAt_some
end Go.Proofs.YthfhibnnkpbeiaaGreat

/- The program's allFor. -/
namespace Go.Proofs.YthfhibnnkpbeiaaGreat
open Go.RowKit Go.Shelf
attribute [local go_sem] Oper.semAt_some
end Go.Proofs.YthfhibnnkpbeiaaGreat

/- The program's sentOk. -/
namespace Go.Proofs.YthfhibnnkpbeiaaGreat
open Go.RowKit Go.Shelf
attribute [local go_sem] Oper.semAt_some
end Go.Proofs.YthfhibnnkpbeiaaGreat

