/- The pile in memory; its Len and Swap. -/
import Derived.Test.YtbljfphdghfkfaaGreatDoorModelsCardG20
import Derived.BigRegion
namespace Go.Proofs.YtbljfphdghfkfaaGreatDoor
open Go.RowKit
abbrev slh (g n cap : Nat) : Value := .slice (some ⟨g, 0, none⟩) n cap
set_option maxHeartbeats 400000 in
theorem len_any (a : Option Addr) (P n cap : Nat) (w : World) (h : w.cell? ⟨P, 0, none⟩ = some (.slice a n cap)) :
  Calls Tryz.prog 186 #[.pointer (some ⟨P, 0, none⟩)] w fun e w' => e = .returned (.int .i64 (n : Int)) ∧ w' = w := by
 go_enter Tryz.func186, Tryz.ntmps186
 go_wp2
 go_ret
 exact ⟨rfl, rfl⟩
set_option maxRecDepth 100000 in
set_option maxHeartbeats 4000000 in
theorem swap_ne (B P g cap : Nat) (l : List Ev) (i k : Nat) (w : World) (hP : w.cell? ⟨P, 0, none⟩ = some (.slice (some ⟨g, 0, none⟩) l.length cap)) (hPg : P ≠ g) (hR : Row w B g cap l) (hi : i < l.length) (hk : k < l.length) (hne : i ≠ k) :
  Calls Tryz.prog 190 #[.pointer (some ⟨P, 0, none⟩), .int .i64 (i : Int), .int .i64 (k : Int)] w fun e w' => (∃ v, e = .returned v) ∧ Row w' B g cap (swp l i k) ∧ Turns (fun b => b = g) w w' := by
 have HR : Hid (Row w B g cap l) := hR
 have hg : g < w.heap.size := hR.lt.2
 have hgP : ¬ g = P := fun e => hPg e.symm
 obtain ⟨⟨f0, f1, f2, f3, f4, f5, f6⟩, ⟨z0, z1, z2, z3, z4, z5, z6⟩⟩ := hR.cells7 hi
 obtain ⟨⟨e0, e1, e2, e3, e4, e5, e6⟩, ⟨y0, y1, y2, y3, y4, y5, y6⟩⟩ := hR.cells7 hk
 have hi1 : (i : Int) < (l.length : Int) := by omega
 have hk1 : (k : Int) < (l.length : Int) := by omega
 have hkn : ¬ k = i := by omega
 clear hR
 go_enter Tryz.func190, Tryz.ntmps190
 go_big_region
 go_end0
 refine ⟨⟨_, rfl⟩, (HR.out.swap hi hk).drew, Turns.drew ?_⟩
 exact ((Turns.refl (fun b => b = g) w).put (g := g) rfl (i * 7) (evAt l k)).put (g := g) rfl (k * 7) (evAt l i)
end Go.Proofs.YtbljfphdghfkfaaGreatDoor
