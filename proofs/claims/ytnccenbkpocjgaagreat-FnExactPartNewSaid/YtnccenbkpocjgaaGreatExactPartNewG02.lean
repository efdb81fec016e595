/- Or, Kit, CmpI -/
import Derived.Test.YtnccenbkpocjgaaGreatExactPartNewG01
import Derived.Deep.RegionHeld3
import Derived.Deep.DeepMust
/- cmp.Or over a row of ints. -/
namespace Go.Proofs.YtnccenbkpocjgaaGreat
open Go.RowKit
def orL : List Int → Int
 | [] => 0
 | x :: r => if x ≠ 0 then x else orL r
theorem orL_at (zs : List Int) (k : Nat) (hk : k < zs.length) (h0 : ∀ i, i < k → zs[i]?.getD 0 = 0) (hx : zs[k]?.getD 0 ≠ 0) : orL zs = zs[k]?.getD 0 := by
 induction zs generalizing k with
 | nil => simp at hk
 | cons x r ih =>
  cases k with
  | zero => simp at hx; simp [orL, hx]
  | succ k =>
   have hx0 : x = 0 := by simpa using h0 0 (by omega)
   simp only [orL, hx0]
   simpa using ih k (by simpa using hk) (fun i hi => by simpa using h0 (i + 1) (by omega)) (by simpa using hx)
theorem orL_none (zs : List Int) (h0 : ∀ i, i < zs.length → zs[i]?.getD 0 = 0) : orL zs = 0 := by
 induction zs with
 | nil => rfl
 | cons x r ih =>
  have hx0 : x = 0 := by simpa using h0 0 (by simp)
  simp only [orL, hx0]
  simpa using ih (fun i hi => by simpa using h0 (i + 1) (by simpa using hi))
set_option maxHeartbeats 400000 in
theorem or_any (b cap : Nat) (zs : List Int) (w : World) (hl : zs.length ≤ maxLen) (hc : ∀ i, i < zs.length → w.cell? ⟨b, i, none⟩ = some (.int .i64 (zs[i]?.getD 0))) :
  Calls Tryz.prog 96 #[.slice (some ⟨b, 0, none⟩) zs.length cap] w fun e w' => e = .returned (.int .i64 (orL zs)) ∧ w' = w := by
 unfold maxLen at hl
 go_enter Tryz.func96, Tryz.ntmps96
 go_wp2
 go_loop [8] (fun i => ∃ k : Nat, k ≤ zs.length ∧ i = .int .i64 k ∧ ∀ i, i < k → zs[i]?.getD 0 = 0) (fun i => zs.length - (intOf i).toNat)
 case atStart => exact ⟨0, Nat.zero_le _, rfl, fun i h => by omega⟩
 case round =>
  obtain ⟨k, hk, rfl, h0⟩ := hrel
  have H0 : Hid (∀ i, i < k → zs[i]?.getD 0 = 0) := h0
  clear h0
  by_cases hlt : k < zs.length
  ·have hck := hc k hlt
   have HC : Hid (∀ i, i < zs.length → w.cell? ⟨b, i, none⟩ = some (.int .i64 (zs[i]?.getD 0))) := hc
   clear hc
   generalize hx : zs[k]?.getD 0 = x at hck
   have HX : Hid (zs[k]?.getD 0 = x) := hx
   clear hx
   by_cases hz : x = 0
   ·subst hz
    go_wp2
    go_round
    case rel => exact ⟨k + 1, by omega, by go_num, fun i hi => by
     by_cases e : i = k
     ·subst e; exact HX.out
     ·exact H0.out i (by omega)⟩
    case measure => simp [intOf]; omega
   ·have hne : (x != 0) = true := by simpa using hz
    go_wp2
    go_ret
    exact ⟨ret_int (by rw [orL_at zs k hlt H0.out (by rw [HX.out]; exact hz), HX.out]), rfl⟩
  ·go_wp2
   go_ret
   exact ⟨ret_int (by rw [orL_none zs (fun i hi => H0.out i (by omega))]), rfl⟩
end Go.Proofs.YtnccenbkpocjgaaGreat

/- Small facts on worlds, and the order of two events. -/
namespace Go.Proofs.YtnccenbkpocjgaaGreat
open Go.RowKit
theorem bcell {W w1 : World} (hb : Below W.heap.size W w1) : (∀ b o, b < W.heap.size → w1.cell? ⟨b, o, none⟩ = W.cell? ⟨b, o, none⟩) ∧ (∀ b o, b < W.heap.size → w1.frozen? ⟨b, o, none⟩ = W.frozen? ⟨b, o, none⟩) :=
 ⟨fun b o h => hb.cell (p := ⟨b, o, none⟩) h, fun b o h => hb.frozen (p := ⟨b, o, none⟩) h⟩
structure EvAt (w : World) (b o : Nat) (t s q d k v g : Int) : Prop where
 f0 : w.cell? ⟨b, o, none⟩ = some (.int .i64 t)
 f1 : w.cell? ⟨b, o + 1, none⟩ = some (.int .i64 s)
 f2 : w.cell? ⟨b, o + 2, none⟩ = some (.int .i64 q)
 f3 : w.cell? ⟨b, o + 3, none⟩ = some (.int .i64 d)
 f4 : w.cell? ⟨b, o + 4, none⟩ = some (.int .i64 k)
 f5 : w.cell? ⟨b, o + 5, none⟩ = some (.int .i64 v)
 f6 : w.cell? ⟨b, o + 6, none⟩ = some (.int .i64 g)
theorem EvAt.below {w w' : World} {B b o : Nat} {t s q d k v g : Int} (h : EvAt w b o t s q d k v g) (hb : Below B w w') (hlt : b < B) : EvAt w' b o t s q d k v g :=
 ⟨(hb.cell hlt).trans h.f0, (hb.cell hlt).trans h.f1, (hb.cell hlt).trans h.f2, (hb.cell hlt).trans h.f3, (hb.cell hlt).trans h.f4, (hb.cell hlt).trans h.f5, (hb.cell hlt).trans h.f6⟩
end Go.Proofs.YtnccenbkpocjgaaGreat

/- The program's EventCmp. -/
namespace Go.Proofs.YtnccenbkpocjgaaGreat
open Go.RowKit
theorem num_zero (a b : Int) : num a b = 0 ↔ a = b := by unfold num; split <;> (try split) <;> omega
theorem orL_cmp (t s q g t' s' q' g' : Int) : orL [num t t', num s s', num q q', num g g'] = cmpI t s q g t' s' q' g' := by
 unfold cmpI
 by_cases h1 : t = t'
 ·by_cases h2 : s = s'
  ·by_cases h3 : q = q'
   ·by_cases h4 : g = g' <;> simp [orL, num_zero, h1, h2, h3, h4]
    ·exact ((num_zero _ _).2 rfl).symm
   ·simp [orL, num_zero, h1, h2, h3]
  ·simp [orL, num_zero, h1, h2]
 ·simp [orL, num_zero, h1]
end Go.Proofs.YtnccenbkpocjgaaGreat

