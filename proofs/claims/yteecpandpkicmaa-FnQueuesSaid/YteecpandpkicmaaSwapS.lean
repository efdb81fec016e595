/- The specification's l0swap. -/
import Derived.Test.YteecpandpkicmaaRowed
namespace Go.Proofs.Yteecpandpkicmaa
open Go.RowKit
theorem Row.cells7 {w : World} {B g cap : Nat} {l : List Ev} (h : Row w B g cap l) {i : Nat} (hi : i < l.length) :
    (w.cell? ⟨g, i * 7, none⟩ = some (.int .i64 (evAt l i).t) ∧ w.cell? ⟨g, i * 7 + 1, none⟩ = some (.int .i64 (evAt l i).s) ∧ w.cell? ⟨g, i * 7 + 2, none⟩ = some (.int .i64 (evAt l i).q) ∧ w.cell? ⟨g, i * 7 + 3, none⟩ = some (.int .i64 (evAt l i).d) ∧ w.cell? ⟨g, i * 7 + 4, none⟩ = some (.int .i64 (evAt l i).k) ∧ w.cell? ⟨g, i * 7 + 5, none⟩ = some (.int .i64 (evAt l i).v) ∧ w.cell? ⟨g, i * 7 + 6, none⟩ = some (.int .i64 (evAt l i).g)) ∧
    (w.frozen? ⟨g, i * 7, none⟩ = false ∧ w.frozen? ⟨g, i * 7 + 1, none⟩ = false ∧ w.frozen? ⟨g, i * 7 + 2, none⟩ = false ∧ w.frozen? ⟨g, i * 7 + 3, none⟩ = false ∧ w.frozen? ⟨g, i * 7 + 4, none⟩ = false ∧ w.frozen? ⟨g, i * 7 + 5, none⟩ = false ∧ w.frozen? ⟨g, i * 7 + 6, none⟩ = false) :=
  ⟨⟨(h.ev hi).f0, (h.ev hi).f1, (h.ev hi).f2, (h.ev hi).f3, (h.ev hi).f4, (h.ev hi).f5, (h.ev hi).f6⟩, ⟨h.frozen _, h.frozen _, h.frozen _, h.frozen _, h.frozen _, h.frozen _, h.frozen _⟩⟩
theorem Row.swap {w : World} {B g cap : Nat} {l : List Ev} (h : Row w B g cap l) {i k : Nat} (hi : i < l.length) (hk : k < l.length) : Row (put7 (put7 w g (i * 7) (evAt l k)) g (k * 7) (evAt l i)) B g cap (swp l i k) :=
  (h.put hi (evAt l k)).put (by simpa using hk) (evAt l i)

set_option maxHeartbeats 2000000 in
theorem sSwap_any (B g cap : Nat) (l : List Ev) (i k : Nat) (w : World) (hR : Row w B g cap l) (hi : i < l.length) (hk : k < l.length) (hne : i ≠ k) :
    Calls Try.prog 69 #[.slice (some ⟨g, 0, none⟩) l.length cap, .int .i64 (i : Int), .int .i64 (k : Int)] w fun e w' => (∃ v, e = .returned v) ∧ Row w' B g cap (swp l i k) ∧ Turns (fun b => b = g) w w' := by
  have HR : Hid (Row w B g cap l) := hR
  have hg : g < w.heap.size := hR.lt.2
  have hgn : g ≠ w.heap.size := by omega
  obtain ⟨⟨f0, f1, f2, f3, f4, f5, f6⟩, ⟨z0, z1, z2, z3, z4, z5, z6⟩⟩ := hR.cells7 hi
  obtain ⟨⟨e0, e1, e2, e3, e4, e5, e6⟩, ⟨y0, y1, y2, y3, y4, y5, y6⟩⟩ := hR.cells7 hk
  have hi1 : (i : Int) < (l.length : Int) := by omega
  have hk1 : (k : Int) < (l.length : Int) := by omega
  have hkn : ¬ k = i := by omega
  clear hR
  go_enter Try.func69, Try.ntmps69
  go_wp2
  go_end0
  refine ⟨⟨_, rfl⟩, (HR.out.swap hi hk).same (Below.heap_alloc _ _ _ (by simpa using hg)), Turns.alloc ?_ _⟩
  exact ((Turns.refl (fun b => b = g) w).put (g := g) rfl (i * 7) (evAt l k)).put (g := g) rfl (k * 7) (evAt l i)
end Go.Proofs.Yteecpandpkicmaa
