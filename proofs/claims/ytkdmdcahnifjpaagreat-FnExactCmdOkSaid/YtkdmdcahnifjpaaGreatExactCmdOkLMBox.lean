/- A struct in a block of its own. -/
import Derived.Test.YtkdmdcahnifjpaaGreatExactCmdOkG00
namespace Go.Proofs.YtkdmdcahnifjpaaGreat
open Go.RowKit
/- Block P holds just the cells vs. -/
def Bk (w : World) (P : Nat) (T : TypeId) (vs : Array Value) : Prop := w.heap[P]? = some (.cells vs T)
theorem Bk.lt {w : World} {P : Nat} {T : TypeId} {vs : Array Value} (h : Bk w P T vs) : P < w.heap.size := (Array.getElem?_eq_some_iff.1 h).1
theorem Bk.cell {w : World} {P : Nat} {T : TypeId} {vs : Array Value} (h : Bk w P T vs) {i : Nat} {v : Value} (hv : vs[i]? = some v) : w.cell? ⟨P, i, none⟩ = some v := by
  have h' : w.heap[P]? = some (.cells vs T) := h
  unfold World.cell?
  simp [h', hv]
theorem Bk.free {w : World} {P : Nat} {T : TypeId} {vs : Array Value} (h : Bk w P T vs) (o : Nat) : w.frozen? ⟨P, o, none⟩ = false := by
  have h' : w.heap[P]? = some (.cells vs T) := h
  unfold World.frozen?
  simp [h']
theorem Bk.keep {w w' : World} {B P : Nat} {T : TypeId} {vs : Array Value} (h : Bk w P T vs) (hb : Below B w w') (hB : P < B) : Bk w' P T vs := (hb.block P hB).trans h
theorem Bk.below {w w' : World} {P : Nat} {T : TypeId} {vs : Array Value} (h : Bk w P T vs) (hb : Below w.heap.size w w') : Bk w' P T vs := h.keep hb h.lt
theorem Bk.turns {S : Nat → Prop} {w w' : World} {P : Nat} {T : TypeId} {vs : Array Value} (h : Bk w P T vs) (ht : Turns S w w') (hS : ¬ S P) : Bk w' P T vs := (ht.block P h.lt hS).trans h
theorem Bk.drew {w : World} {P : Nat} {T : TypeId} {vs : Array Value} (h : Bk w P T vs) : Bk w.drew P T vs := h
theorem Bk.new (w : World) (T : TypeId) (vs : Array Value) : Bk (w.alloc (.cells vs T)) w.heap.size T vs := by
  show (w.heap.push _)[w.heap.size]? = _
  simp
theorem Bk.newAt {w : World} {P : Nat} (hP : P = w.heap.size) (T : TypeId) (vs : Array Value) : Bk (w.alloc (.cells vs T)) P T vs := hP ▸ Bk.new w T vs
theorem Bk.alloc {w : World} {P : Nat} {T : TypeId} {vs : Array Value} (h : Bk w P T vs) (o : Obj) : Bk (w.alloc o) P T vs := h.keep ((Below.refl w.heap.size w).alloc (Nat.le_refl _) o) h.lt
theorem Bk.put {w : World} {P : Nat} {T : TypeId} {vs : Array Value} (h : Bk w P T vs) (i : Nat) (v : Value) : Bk (w.setCell ⟨P, i, none⟩ v) P T (vs.setIfInBounds i v) := by
  have h' : w.heap[P]? = some (.cells vs T) := h
  obtain ⟨hl, hv⟩ := Array.getElem?_eq_some_iff.1 h'
  unfold Bk
  simp [World.setCell, hl, Array.getElem_modify, hv]
theorem Bk.other {w : World} {P b : Nat} {T : TypeId} {vs : Array Value} (h : Bk w P T vs) (i : Nat) (v : Value) (hb : P ≠ b) : Bk (w.setCell ⟨b, i, none⟩ v) P T vs :=
  (Below.heap_setCell _ _ _ _ hb).trans h
theorem put1_turns (w : World) (g o : Nat) (u : Value) : Turns (fun b => b = g) w (w.setCell ⟨g, o, none⟩ u) := (Turns.refl (fun b => b = g) w).setCell (p := ⟨g, o, none⟩) rfl _
abbrev put6 (w : World) (R : Nat) (v0 v1 v2 v3 v4 v5 : Value) : World :=
  (((((w.setCell ⟨R, 0, none⟩ v0).setCell ⟨R, 1, none⟩ v1).setCell ⟨R, 2, none⟩ v2).setCell ⟨R, 3, none⟩ v3).setCell ⟨R, 4, none⟩ v4).setCell ⟨R, 5, none⟩ v5
theorem Bk.put6 {w : World} {R : Nat} {T : TypeId} {a0 a1 a2 a3 a4 a5 : Value} (h : Bk w R T #[a0, a1, a2, a3, a4, a5]) (v0 v1 v2 v3 v4 v5 : Value) : Bk (put6 w R v0 v1 v2 v3 v4 v5) R T #[v0, v1, v2, v3, v4, v5] :=
  (((((h.put 0 v0).put 1 v1).put 2 v2).put 3 v3).put 4 v4).put 5 v5
theorem put6_turns (w : World) (R : Nat) (v0 v1 v2 v3 v4 v5 : Value) : Turns (fun b => b = R) w (put6 w R v0 v1 v2 v3 v4 v5) :=
  (((((put1_turns w R 0 v0).trans (put1_turns _ R 1 v1)).trans (put1_turns _ R 2 v2)).trans (put1_turns _ R 3 v3)).trans (put1_turns _ R 4 v4)).trans (put1_turns _ R 5 v5)
end Go.Proofs.YtkdmdcahnifjpaaGreat
