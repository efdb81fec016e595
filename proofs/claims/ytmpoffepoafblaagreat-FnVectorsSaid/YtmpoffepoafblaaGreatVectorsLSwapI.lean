/- The pile in memory; its Len and Swap. -/
import Derived.Test.YtmpoffepoafblaaGreatVectorsG30
import Derived.BigRegion
namespace Go.Proofs.YtmpoffepoafblaaGreat
open Go.RowKit
/- At block P lies a pile whose list is the slice value v over a row of its own. -/
structure PileV (w : World) (B P : Nat) (v : Value) (l : List Ev) : Prop where
  cell : w.cell? ⟨P, 0, none⟩ = some v
  fz : w.frozen? ⟨P, 0, none⟩ = false
  row : w.ownsRow B 50 7 v l.length (cellsL l)
  ne : v.ownBlock ≠ some P
  lt : P < w.heap.size
  low : B ≤ P
abbrev slh (g n cap : Nat) : Value := .slice (some ⟨g, 0, none⟩) n cap
theorem PileV.slice {w : World} {B P : Nat} {v : Value} {l : List Ev} (h : PileV w B P v l) : ∃ a cap, v = .slice a l.length cap ∧ l.length ≤ maxLen := by
  obtain ⟨_, ⟨e, h0⟩ | ⟨g, cap, cur, e, _, _, h1, h2, _⟩⟩ := h.row
  · exact ⟨none, 0, by rw [e, h0], by omega⟩
  · exact ⟨_, cap, e, by omega⟩
theorem PileV.some {w : World} {B P : Nat} {v : Value} {l : List Ev} (h : PileV w B P v l) (hl : 0 < l.length) : ∃ g cap, v = slh g l.length cap ∧ Row w B g cap l ∧ P ≠ g := by
  obtain ⟨h0, ⟨e, h1⟩ | ⟨g, cap, cur, e, h1⟩⟩ := h.row
  · omega
  · refine ⟨g, cap, e, ?_, fun e1 => h.ne (by rw [e, e1]; rfl)⟩
    have := h.row
    rw [e] at this
    exact this

set_option maxHeartbeats 400000 in
theorem len_any (a : Option Addr) (P n cap : Nat) (w : World) (h : w.cell? ⟨P, 0, none⟩ = some (.slice a n cap)) :
    Calls Tryz.prog 332 #[.pointer (some ⟨P, 0, none⟩)] w fun e w' => e = .returned (.int .i64 (n : Int)) ∧ w' = w := by
  go_enter Tryz.func332, Tryz.ntmps332
  go_wp2
  go_ret
  exact ⟨rfl, rfl⟩

set_option maxRecDepth 100000 in
set_option maxHeartbeats 4000000 in
theorem swap_ne (B P g cap : Nat) (l : List Ev) (i k : Nat) (w : World) (hP : w.cell? ⟨P, 0, none⟩ = some (.slice (some ⟨g, 0, none⟩) l.length cap)) (hPg : P ≠ g) (hR : Row w B g cap l) (hi : i < l.length) (hk : k < l.length) (hne : i ≠ k) :
    Calls Tryz.prog 336 #[.pointer (some ⟨P, 0, none⟩), .int .i64 (i : Int), .int .i64 (k : Int)] w fun e w' => (∃ v, e = .returned v) ∧ Row w' B g cap (swp l i k) ∧ Turns (fun b => b = g) w w' := by
  have HR : Hid (Row w B g cap l) := hR
  have hg : g < w.heap.size := hR.lt.2
  have hgP : ¬ g = P := fun e => hPg e.symm
  obtain ⟨⟨f0, f1, f2, f3, f4, f5, f6⟩, ⟨z0, z1, z2, z3, z4, z5, z6⟩⟩ := hR.cells7 hi
  obtain ⟨⟨e0, e1, e2, e3, e4, e5, e6⟩, ⟨y0, y1, y2, y3, y4, y5, y6⟩⟩ := hR.cells7 hk
  have hi1 : (i : Int) < (l.length : Int) := by omega
  have hk1 : (k : Int) < (l.length : Int) := by omega
  have hkn : ¬ k = i := by omega
  clear hR
  go_enter Tryz.func336, Tryz.ntmps336
  go_big_region
  go_end0
  refine ⟨⟨_, rfl⟩, (HR.out.swap hi hk).drew, Turns.drew ?_⟩
  exact ((Turns.refl (fun b => b = g) w).put (g := g) rfl (i * 7) (evAt l k)).put (g := g) rfl (k * 7) (evAt l i)

end Go.Proofs.YtmpoffepoafblaaGreat
