/- The pile's Swap, at one place or two. -/
import Derived.Test.YteecpandpkicmaaSortsLSwapI
namespace Go.Proofs.Yteecpandpkicmaa
open Go.RowKit
set_option maxRecDepth 100000 in
set_option maxHeartbeats 4000000 in
theorem swap_eq (B P g cap : Nat) (l : List Ev) (i : Nat) (w : World) (hP : w.cell? ⟨P, 0, none⟩ = some (.slice (some ⟨g, 0, none⟩) l.length cap)) (hPg : P ≠ g) (hR : Row w B g cap l) (hi : i < l.length) :
    Calls Try.prog 90 #[.pointer (some ⟨P, 0, none⟩), .int .i64 (i : Int), .int .i64 (i : Int)] w fun e w' => (∃ v, e = .returned v) ∧ Row w' B g cap (swp l i i) ∧ Turns (fun b => b = g) w w' := by
  have HR : Hid (Row w B g cap l) := hR
  have hg : g < w.heap.size := hR.lt.2
  have hgP : ¬ g = P := fun e => hPg e.symm
  obtain ⟨⟨f0, f1, f2, f3, f4, f5, f6⟩, ⟨z0, z1, z2, z3, z4, z5, z6⟩⟩ := hR.cells7 hi
  have hi1 : (i : Int) < (l.length : Int) := by omega
  clear hR
  go_enter Try.func90, Try.ntmps90
  go_big_region
  go_end0
  refine ⟨⟨_, rfl⟩, (HR.out.swap hi hi).drew, Turns.drew ?_⟩
  exact ((Turns.refl (fun b => b = g) w).put (g := g) rfl (i * 7) (evAt l i)).put (g := g) rfl (i * 7) (evAt l i)

theorem swap_any (B P g cap : Nat) (l : List Ev) (i k : Nat) (w : World) (hP : w.cell? ⟨P, 0, none⟩ = some (.slice (some ⟨g, 0, none⟩) l.length cap)) (hPg : P ≠ g) (hR : Row w B g cap l) (hi : i < l.length) (hk : k < l.length) :
    Calls Try.prog 90 #[.pointer (some ⟨P, 0, none⟩), .int .i64 (i : Int), .int .i64 (k : Int)] w fun e w' => (∃ v, e = .returned v) ∧ Row w' B g cap (swp l i k) ∧ Turns (fun b => b = g) w w' := by
  by_cases h : i = k
  · subst h; exact swap_eq B P g cap l i w hP hPg hR hi
  · exact swap_ne B P g cap l i k w hP hPg hR hi hk h
end Go.Proofs.Yteecpandpkicmaa
