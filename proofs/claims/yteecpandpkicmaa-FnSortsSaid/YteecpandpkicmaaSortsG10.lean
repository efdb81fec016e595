/- Rowed, SwapS -/
import Derived.Test.YteecpandpkicmaaSortsG01
import Derived.Test.YteecpandpkicmaaSortsG00
import Derived.Laws.OwnMore
import Derived.WalkSmall
/- A row of events of one's own, whose places are written; what turns beside it. -/
namespace Go.Proofs.Yteecpandpkicmaa
open Go.RowKit

def Row (w : World) (B g cap : Nat) (l : List Ev) : Prop := w.ownsRow B 25 7 (.slice (some ⟨g, 0, none⟩) l.length cap) l.length (cellsL l)
theorem cellsL_set : ∀ (l : List Ev) (i : Nat) (e : Ev), i < l.length →
    (((((((cellsL l).set (i * 7) (.int .i64 e.t)).set (i * 7 + 1) (.int .i64 e.s)).set (i * 7 + 2) (.int .i64 e.q)).set (i * 7 + 3) (.int .i64 e.d)).set (i * 7 + 4) (.int .i64 e.k)).set (i * 7 + 5) (.int .i64 e.v)).set (i * 7 + 6) (.int .i64 e.g) = cellsL (l.set i e)
  | [], _, _, h => by simp at h
  | a :: l, 0, e, _ => by simp [cellsL, Ev.cs]
  | a :: l, i + 1, e, h => by
    have ih := cellsL_set l i e (by simpa using h)
    have hk0 : (i + 1) * 7 = i * 7 + 1 + 1 + 1 + 1 + 1 + 1 + 1 := by omega
    simp only [cellsL, Ev.cs, List.cons_append, List.nil_append, List.set_cons_succ, hk0, ih]
theorem Row.put {w : World} {B g cap : Nat} {l : List Ev} (h : Row w B g cap l) {i : Nat} (hi : i < l.length) (e : Ev) : Row (put7 w g (i * 7) e) B g cap (l.set i e) := by
  have h0 := (World.ownsRow.stored h (i * 7) (.int .i64 e.t)).1
  have h1 := (World.ownsRow.stored h0 (i * 7 + 1) (.int .i64 e.s)).1
  have h2 := (World.ownsRow.stored h1 (i * 7 + 2) (.int .i64 e.q)).1
  have h3 := (World.ownsRow.stored h2 (i * 7 + 3) (.int .i64 e.d)).1
  have h4 := (World.ownsRow.stored h3 (i * 7 + 4) (.int .i64 e.k)).1
  have h5 := (World.ownsRow.stored h4 (i * 7 + 5) (.int .i64 e.v)).1
  have h6 := (World.ownsRow.stored h5 (i * 7 + 6) (.int .i64 e.g)).1
  unfold Row
  rw [List.length_set, ← cellsL_set l i e hi]
  exact h6
theorem Row.lt {w : World} {B g cap : Nat} {l : List Ev} (h : Row w B g cap l) : B ≤ g ∧ g < w.heap.size := World.ownsRow.lt h g rfl
theorem Row.caps {w : World} {B g cap : Nat} {l : List Ev} (h : Row w B g cap l) : l.length ≤ cap ∧ cap ≤ maxLen := by
  obtain ⟨_, ⟨h, _⟩ | ⟨g', cap', cur, e, _, _, h1, h2, _⟩⟩ := h
  · cases h
  · cases e; exact ⟨h1, h2⟩
theorem Row.ev {w : World} {B g cap : Nat} {l : List Ev} (h : Row w B g cap l) {i : Nat} (hi : i < l.length) : Ev.In w g (i * 7) (evAt l i) := by
  have hget : ∀ r, r < 7 → w.cell? ⟨g, i * 7 + r, none⟩ = (evAt l i).cs[r]? := fun r hr => by
    rw [World.ownsRow.cellAt h (i * 7 + r) (by omega), cellsL_get l i r hi hr]
  exact ⟨hget 0 (by omega), hget 1 (by omega), hget 2 (by omega), hget 3 (by omega), hget 4 (by omega), hget 5 (by omega), hget 6 (by omega)⟩
theorem Row.frozen {w : World} {B g cap : Nat} {l : List Ev} (h : Row w B g cap l) (j : Nat) : w.frozen? ⟨g, j, none⟩ = false := World.ownsRow.frozenAt h j
theorem Row.evs {w : World} {B g cap : Nat} {l : List Ev} (h : Row w B g cap l) : EvsAt w g 0 l := ⟨h.lt.2, fun i hi => by rw [Nat.zero_add]; exact h.ev hi⟩
theorem Row.same {w w' : World} {B g cap : Nat} {l : List Ev} (h : Row w B g cap l) (hb : w'.heap[g]? = w.heap[g]?) : Row w' B g cap l := by
  obtain ⟨h0, ⟨h, _⟩ | ⟨g', cap', cur, e, hg, hc, h1, h2, h3, h4⟩⟩ := h
  · cases h
  · cases e; exact ⟨h0, .inr ⟨g, cap, cur, rfl, hg, hb.trans hc, h1, h2, h3, h4⟩⟩
theorem Row.below {w w' : World} {B B' g cap : Nat} {l : List Ev} (h : Row w B g cap l) (hb : Below B' w w') (hB : g < B') : Row w' B g cap l := h.same (hb.block g hB)
theorem Row.base {w : World} {B B' g cap : Nat} {l : List Ev} (h : Row w B g cap l) (hB : B' ≤ g) : Row w B' g cap l := by
  obtain ⟨h0, ⟨h, _⟩ | ⟨g', cap', cur, e, hg, hc, h1, h2, h3, h4⟩⟩ := h
  · cases h
  · cases e; exact ⟨h0, .inr ⟨g, cap, cur, rfl, hB, hc, h1, h2, h3, h4⟩⟩
theorem Row.own {w : World} {B g cap : Nat} {l : List Ev} (h : Row w B g cap l) : OwnEvs B w (.slice (some ⟨g, 0, none⟩) l.length cap) l := OwnEvs.of_row h
theorem Row.drew {w : World} {B g cap : Nat} {l : List Ev} (h : Row w B g cap l) : Row w.drew B g cap l := World.ownsRow.drew h
theorem Row.pop {w : World} {B g cap : Nat} {l : List Ev} {e : Ev} (h : Row w B g cap (l ++ [e])) : Row w B g cap l := by
  unfold Row at h
  rw [List.length_append, List.length_singleton, cellsL_append] at h
  exact ownsRow_pop (cellsL_length l) h

/- All blocks but those of S stay as they were. -/
theorem Turns.put {S : Nat → Prop} {a w : World} (h : Turns S a w) {g : Nat} (hg : S g) (o : Nat) (e : Ev) : Turns S a (put7 w g o e) :=
  ((((((h.setCell (p := ⟨g, o, none⟩) hg _).setCell (p := ⟨g, o + 1, none⟩) hg _).setCell (p := ⟨g, o + 2, none⟩) hg _).setCell (p := ⟨g, o + 3, none⟩) hg _).setCell (p := ⟨g, o + 4, none⟩) hg _).setCell (p := ⟨g, o + 5, none⟩) hg _).setCell (p := ⟨g, o + 6, none⟩) hg _
theorem Turns.row {S : Nat → Prop} {w w' : World} (h : Turns S w w') {B g cap : Nat} {l : List Ev} (hr : Row w B g cap l) (hg : ¬ S g) : Row w' B g cap l := hr.same (h.block g hr.lt.2 hg)
end Go.Proofs.Yteecpandpkicmaa

/- The specification's l0swap. -/
namespace Go.Proofs.Yteecpandpkicmaa
open Go.RowKit
theorem Row.cells7 {w : World} {B g cap : Nat} {l : List Ev} (h : Row w B g cap l) {i : Nat} (hi : i < l.length) :
    (w.cell? ⟨g, i * 7, none⟩ = some (.int .i64 (evAt l i).t) ∧ w.cell? ⟨g, i * 7 + 1, none⟩ = some (.int .i64 (evAt l i).s) ∧ w.cell? ⟨g, i * 7 + 2, none⟩ = some (.int .i64 (evAt l i).q) ∧ w.cell? ⟨g, i * 7 + 3, none⟩ = some (.int .i64 (evAt l i).d) ∧ w.cell? ⟨g, i * 7 + 4, none⟩ = some (.int .i64 (evAt l i).k) ∧ w.cell? ⟨g, i * 7 + 5, none⟩ = some (.int .i64 (evAt l i).v) ∧ w.cell? ⟨g, i * 7 + 6, none⟩ = some (.int .i64 (evAt l i).g)) ∧
    (w.frozen? ⟨g, i * 7, none⟩ = false ∧ w.frozen? ⟨g, i * 7 + 1, none⟩ = false ∧ w.frozen? ⟨g, i * 7 + 2, none⟩ = false ∧ w.frozen? ⟨g, i * 7 + 3, none⟩ = false ∧ w.frozen? ⟨g, i * 7 + 4, none⟩ = false ∧ w.frozen? ⟨g, i * 7 + 5, none⟩ = false ∧ w.frozen? ⟨g, i * 7 + 6, none⟩ = false) :=
  ⟨⟨(h.ev hi).f0, (h.ev hi).f1, (h.ev hi).f2, (h.ev hi).f3, (h.ev hi).f4, (h.ev hi).f5, (h.ev hi).f6⟩, ⟨h.frozen _, h.frozen _, h.frozen _, h.frozen _, h.frozen _, h.frozen _, h.frozen _⟩⟩
theorem Row.swap {w : World} {B g cap : Nat} {l : List Ev} (h : Row w B g cap l) {i k : Nat} (hi : i < l.length) (hk : k < l.length) : Row (put7 (put7 w g (i * 7) (evAt l k)) g (k * 7) (evAt l i)) B g cap (swp l i k) :=
  (h.put hi (evAt l k)).put (by simpa using hk) (evAt l i)

set_option maxHeartbeats 2000000 in
theorem sSwap_any (B g cap : Nat) (l : List Ev) (i k : Nat) (w : World) (hR : Row w B g cap l) (hi : i < l.length) (hk : k < l.length) (hne : i ≠ k) :
    Calls Try.prog 69 #[.slice (some ⟨g, 0, none⟩) l.length cap, .int .i64 (i : Int), .int .i64 (k : Int)] w fun e w' => (∃ v, e = .returned v) ∧ Row w' B g cap (swp l i k) ∧ Turns (fun b => b = g) w w' := by
  have HR : Hid (Row w B g cap l) := hR
  have hg : g < w.heap.size := hR.lt.2
  have hgn : g ≠ w.heap.size := by omega
  obtain ⟨⟨f0, f1, f2, f3, f4, f5, f6⟩, ⟨z0, z1, z2, z3, z4, z5, z6⟩⟩ := hR.cells7 hi
  obtain ⟨⟨e0, e1, e2, e3, e4, e5, e6⟩, ⟨y0, y1, y2, y3, y4, y5, y6⟩⟩ := hR.cells7 hk
  have hi1 : (i : Int) < (l.length : Int) := by omega
  have hk1 : (k : Int) < (l.length : Int) := by omega
  have hkn : ¬ k = i := by omega
  clear hR
  go_enter Try.func69, Try.ntmps69
  go_wp2
  go_end0
  refine ⟨⟨_, rfl⟩, (HR.out.swap hi hk).same (Below.heap_alloc _ _ _ (by simpa using hg)), Turns.alloc ?_ _⟩
  exact ((Turns.refl (fun b => b = g) w).put (g := g) rfl (i * 7) (evAt l k)).put (g := g) rfl (k * 7) (evAt l i)
end Go.Proofs.Yteecpandpkicmaa

