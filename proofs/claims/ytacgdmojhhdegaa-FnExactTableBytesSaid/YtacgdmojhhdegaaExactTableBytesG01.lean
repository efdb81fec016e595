/- MMark, MSz, MMarkH, MToH, MEq, Eqs, MBox, MModel, MLaw, EEm -/
import Derived.Test.YtacgdmojhhdegaaExactTableBytesG00
import Derived.Deep.RegionHeld3
/- markIntS, markOpS, markEventS from any number on; heldIntS, heldOpS, heldEventS. -/
namespace Go.Proofs.Ytacgdmojhhdegaa
open Go.RowKit
def mkCells (z : Int) (n : Nat) : List Value := (List.range n).map fun i : Nat => .int .i64 (z + (i : Int))
theorem mkCells_length (z : Int) (n : Nat) : (mkCells z n).length = n := by simp [mkCells]
theorem mkCells_get {z : Int} {n i : Nat} (h : i < n) : (mkCells z n)[i]? = some (.int .i64 (z + (i : Int))) := by simp [mkCells, h]
/- The block g holds N cells that may be written, of which the first k hold the numbers from z on. -/
def MkTo (w : World) (g N : Nat) (z : Int) (k : Nat) : Prop := g < w.heap.size ∧ (∀ j, j < N → (w.cell? ⟨g, j, none⟩).isSome = true ∧ w.frozen? ⟨g, j, none⟩ = false) ∧ ∀ i, i < k → w.cell? ⟨g, i, none⟩ = some (.int .i64 (z + (i : Int)))
theorem MkTo.put {w : World} {g N k : Nat} {z : Int} (h : MkTo w g N z k) (hk : k < N) {u : Int} (hu : u = z + (k : Int)) : MkTo (w.setCell ⟨g, k, none⟩ (.int .i64 u)) g N z (k + 1) := by
  subst hu
  have e1 : w.setCell ⟨g, k, none⟩ (.int .i64 (z + (k : Int))) = w.setCells g k [.int .i64 (z + (k : Int))] := rfl
  have hsame : ∀ j, j ≠ k → (w.setCell ⟨g, k, none⟩ (.int .i64 (z + (k : Int)))).cell? ⟨g, j, none⟩ = w.cell? ⟨g, j, none⟩ := fun j hj => by
    rw [e1]
    exact World.cell?_setCells_out g _ k w ⟨g, j, none⟩ (fun _ _ => by simp; omega)
  have hat : (w.setCell ⟨g, k, none⟩ (.int .i64 (z + (k : Int)))).cell? ⟨g, k, none⟩ = some (.int .i64 (z + (k : Int))) := by
    rw [e1]
    have h0 := World.cell?_setCells_in g [.int .i64 (z + (k : Int))] k w (fun j hj => by
      obtain rfl : j = 0 := by simpa using hj
      exact (h.2.1 k hk).1) 0 (by simp)
    simpa using h0
  refine ⟨by simpa using h.1, fun j hj => ⟨?_, ?_⟩, fun i hi => ?_⟩
  · by_cases e : j = k
    · subst e; rw [hat]; rfl
    · rw [hsame j e]; exact (h.2.1 j hj).1
  · rw [e1, World.frozen?_setCells]; exact (h.2.1 j hj).2
  · by_cases e : i = k
    · subst e; exact hat
    · rw [hsame i e]; exact h.2.2 i (by omega)
theorem RowF.mkTo {F : Nat → Prop} {w : World} {x : Value} {n c : Nat} {cs : List Value} (h : RowF F w x n c cs) (z : Int) : ∃ a cap, x = .slice a n cap ∧ n ≤ cap ∧ cap ≤ maxLen ∧ (n = 0 ∨ ∃ g, a = some ⟨g, 0, none⟩ ∧ F g ∧ MkTo w g (n * c) z 0) := by
  obtain ⟨hl, a, cap, rfl, h1, h2, h⟩ := h
  refine ⟨a, cap, rfl, h1, h2, h.imp id ?_⟩
  rintro ⟨g, rfl, hF, hg, hc⟩
  refine ⟨g, rfl, hF, hg, fun j hj => ⟨?_, (hc j hj).2⟩, fun i hi => by omega⟩
  rw [(hc j hj).1, List.getElem?_eq_getElem (by omega)]
  rfl
theorem MkTo.row {F : Nat → Prop} {w : World} {g n c cap : Nat} {z : Int} (h : MkTo w g (n * c) z (n * c)) (hF : F g) (h1 : n ≤ cap) (h2 : cap ≤ maxLen) : RowF F w (.slice (some ⟨g, 0, none⟩) n cap) n c (mkCells z (n * c)) :=
  ⟨mkCells_length _ _, _, cap, rfl, h1, h2, .inr ⟨g, rfl, hF, h.1, fun j hj => ⟨by rw [mkCells_get hj]; exact h.2.2 j hj, (h.2.1 j hj).2⟩⟩⟩
theorem RowF.nil {F : Nat → Prop} {w : World} {a : Option Addr} {cap c : Nat} {z : Int} (h2 : cap ≤ maxLen) : RowF F w (.slice a 0 cap) 0 c (mkCells z (0 * c)) :=
  ⟨by simp [mkCells], a, cap, rfl, Nat.zero_le _, h2, .inl rfl⟩
theorem RowF.marked {F : Nat → Prop} {w : World} {x : Value} {n c : Nat} {z : Int} (h : RowF F w x n c (mkCells z (n * c))) : ∃ a cap, x = .slice a n cap ∧ (n = 0 ∨ ∃ g, a = some ⟨g, 0, none⟩ ∧ ∀ j, j < n * c → w.cell? ⟨g, j, none⟩ = some (.int .i64 (z + (j : Int)))) := by
  obtain ⟨hl, a, cap, rfl, h1, h2, h⟩ := h
  refine ⟨a, cap, rfl, h.imp id ?_⟩
  rintro ⟨g, rfl, hF, hg, hc⟩
  exact ⟨g, rfl, fun j hj => by rw [(hc j hj).1, mkCells_get hj]⟩
theorem one_add (w : World) (g o : Nat) (u : Value) : Turns (fun b => b = g) w (w.setCell ⟨g, o, none⟩ u) := (Turns.refl (fun b => b = g) w).setCell (p := ⟨g, o, none⟩) rfl _

end Go.Proofs.Ytacgdmojhhdegaa

/- szModel: whether there is too much of it. -/
namespace Go.Proofs.Ytacgdmojhhdegaa
open Go.RowKit
def szN (n left : Int) : Int := if left - n < 0 then -1 else left - n
/- Either all rows are small, and a number of 0 .. 1048576 comes back, or -1 does. -/
def sumL (L : Nat → Nat) : Nat → Nat
  | 0 => 0
  | k + 1 => sumL L k + L k
def lens (l : List (List O)) (i : Nat) : Nat := (hAt l i).length
def SzH (l : List (List O)) (left r : Int) : Prop := (r = -1) ∨ (0 ≤ r ∧ r ≤ left ∧ (l.length : Int) ≤ 1048576 ∧ (∀ i, (hAt l i).length ≤ 1048576) ∧ sumL (lens l) l.length ≤ 1048576)
theorem hAt_out {l : List (List O)} {i : Nat} (h : l.length ≤ i) : hAt l i = [] := by simp [hAt, h]
end Go.Proofs.Ytacgdmojhhdegaa

/- markOpSS, heldOpSS. -/
namespace Go.Proofs.Ytacgdmojhhdegaa
open Go.RowKit
theorem sumL_mono (L : Nat → Nat) : ∀ {i j : Nat}, i ≤ j → sumL L i ≤ sumL L j := by
  intro i j h
  induction h with
  | refl => exact Nat.le_refl _
  | step _ ih => exact Nat.le_trans ih (by simp [sumL])
theorem RowsF.step {F : Nat → Prop} {w : World} {x : Value} {n : Nat} {U : Nat → Value} {L : Nat → Nat} {C : Nat → List Value} (h : RowsF F w x n U L C) {k : Nat} (hk : k < n) :
    ∃ K : Nat → Prop, RowF K w (U k) (L k) 4 (C k) ∧ (∀ b, K b → F b) ∧ ∀ w' cs, RowF K w' (U k) (L k) 4 cs → Turns K w w' → RowsF F w' x n U L (fun i => if i = k then cs else C i) := by
  obtain ⟨F0, G, h0, hF, h1, h2⟩ := h
  refine ⟨G k, (h1 k hk).1, fun b hb => ((h1 k hk).2 b hb).1, fun w' cs hr ht => ⟨F0, G, h0.turns ht (fun b hb hg => ((h1 k hk).2 b hg).2 hb), hF, fun i hi => ⟨?_, (h1 i hi).2⟩, h2⟩⟩
  by_cases e : i = k
  · subst e
    simpa using hr
  · simp only [if_neg e]
    exact (h1 i hi).1.turns ht (fun b hb hg => h2 i k hi hk e b hb hg)
theorem RowsF.slice {F : Nat → Prop} {w : World} {x : Value} {n : Nat} {U : Nat → Value} {L : Nat → Nat} {C : Nat → List Value} (h : RowsF F w x n U L C) : ∃ a cap, x = .slice a n cap ∧ (n = 0 ∨ ∃ g, a = some ⟨g, 0, none⟩) := by
  obtain ⟨F0, G, ⟨_, a, cap, e, _, _, h⟩, _⟩ := h
  exact ⟨a, cap, e, h.imp id (fun ⟨g, e, _⟩ => ⟨g, e⟩)⟩
theorem RowsF.cell {F : Nat → Prop} {w : World} {n cap g : Nat} {U : Nat → Value} {L : Nat → Nat} {C : Nat → List Value} (h : RowsF F w (.slice (some ⟨g, 0, none⟩) n cap) n U L C) {i : Nat} (hi : i < n) : w.cell? ⟨g, i, none⟩ = some (U i) := by
  obtain ⟨F0, G, ⟨_, a, cap', e, _, _, h⟩, _⟩ := h
  rcases h with h | ⟨g', e', _, _, hc⟩
  · omega
  · subst e'
    simp at e
    obtain ⟨rfl, rfl⟩ := e
    rw [(hc i (by omega)).1]
    simp [hi]
theorem RowsF.len {F : Nat → Prop} {w : World} {x : Value} {n : Nat} {U : Nat → Value} {L : Nat → Nat} {C : Nat → List Value} (h : RowsF F w x n U L C) {i : Nat} (hi : i < n) : ∃ a cap, U i = .slice a (L i) cap := by
  obtain ⟨F0, G, _, _, h1, _⟩ := h
  obtain ⟨⟨_, a, cap, e, _⟩, _⟩ := h1 i hi
  exact ⟨a, cap, e⟩
def mkRows (z : Int) (L : Nat → Nat) (i : Nat) : List Value := mkCells (z + 4 * (sumL L i : Int)) (L i * 4)
theorem RowsF.congr {F : Nat → Prop} {w : World} {x : Value} {n : Nat} {U : Nat → Value} {L : Nat → Nat} {C C' : Nat → List Value} (h : RowsF F w x n U L C) (hC : ∀ i, i < n → C i = C' i) : RowsF F w x n U L C' := by
  obtain ⟨F0, G, h0, hF, h1, h2⟩ := h
  exact ⟨F0, G, h0, hF, fun i hi => by rw [← hC i hi]; exact h1 i hi, h2⟩

end Go.Proofs.Ytacgdmojhhdegaa

/- toOpSS: rows of ops, each copied into a row of its own. -/
namespace Go.Proofs.Ytacgdmojhhdegaa
open Go.RowKit
theorem OAt.turns {S : Nat → Prop} {w w' : World} {b o : Nat} {e : O} (h : OAt w b o e) (ht : Turns S w w') (hb : b < w.heap.size) (hS : ¬ S b) : OAt w' b o e :=
  ⟨(ht.cell hb hS).trans h.f0, (ht.cell hb hS).trans h.f1, (ht.cell hb hS).trans h.f2, (ht.cell hb hS).trans h.f3⟩
theorem FillO.turns {S : Nat → Prop} {w w' : World} {g n k : Nat} {l : List O} (h : FillO w g n l k) (ht : Turns S w w') (hS : ¬ S g) : FillO w' g n l k :=
  ⟨Nat.lt_of_lt_of_le h.1 ht.size, fun j hj => by rw [ht.cell h.1 hS, ht.frozen h.1 hS]; exact h.2.1 j hj, fun i hi => (h.2.2 i hi).turns ht h.1 hS⟩
/- As far as k the block g holds rows of their own, each in a block of its own, later ones in later blocks. -/
def FillH (w : World) (g n : Nat) (l : List (List O)) (k : Nat) : Prop := g < w.heap.size ∧ (∀ j, j < n → (w.cell? ⟨g, j, none⟩).isSome = true ∧ w.frozen? ⟨g, j, none⟩ = false) ∧
  ∃ G : Nat → Nat, ∀ i, i < k → w.cell? ⟨g, i, none⟩ = some (sl (G i) (hAt l i).length) ∧ FillO w (G i) (hAt l i).length (hAt l i) (hAt l i).length ∧ g < G i ∧ ∀ j, j < i → G j < G i
theorem FillH.below {w w' : World} {g n k : Nat} {l : List (List O)} (h : FillH w g n l k) (hb : Below w.heap.size w w') : FillH w' g n l k := by
  obtain ⟨h1, h2, G, h3⟩ := h
  refine ⟨Nat.lt_of_lt_of_le h1 hb.size, fun j hj => by rw [hb.cell (p := ⟨g, j, none⟩) h1, hb.frozen (p := ⟨g, j, none⟩) h1]; exact h2 j hj, G, fun i hi => ?_⟩
  obtain ⟨a, b, c, d⟩ := h3 i hi
  exact ⟨(hb.cell (p := ⟨g, i, none⟩) h1).trans a, b.below hb b.1, c, d⟩
theorem FillH.put {w : World} {g n k R : Nat} {l : List (List O)} (h : FillH w g n l k) (hk : k < n) (hr : FillO w R (hAt l k).length (hAt l k) (hAt l k).length) (hg : g < R) (hnew : ∀ j, j < k → ∀ r, w.cell? ⟨g, j, none⟩ = some (sl r (hAt l j).length) → r < R) :
    FillH (w.setCell ⟨g, k, none⟩ (sl R (hAt l k).length)) g n l (k + 1) := by
  obtain ⟨h1, h2, G, h3⟩ := h
  have e1 : w.setCell ⟨g, k, none⟩ (sl R (hAt l k).length) = w.setCells g k [sl R (hAt l k).length] := rfl
  have hsame : ∀ j, j ≠ k → (w.setCell ⟨g, k, none⟩ (sl R (hAt l k).length)).cell? ⟨g, j, none⟩ = w.cell? ⟨g, j, none⟩ := fun j hj => by
    rw [e1]
    exact World.cell?_setCells_out g _ k w ⟨g, j, none⟩ (fun _ _ => by simp; omega)
  have hat : (w.setCell ⟨g, k, none⟩ (sl R (hAt l k).length)).cell? ⟨g, k, none⟩ = some (sl R (hAt l k).length) := by
    rw [e1]
    have h0 := World.cell?_setCells_in g [sl R (hAt l k).length] k w (fun j hj => by
      obtain rfl : j = 0 := by simpa using hj
      exact (h2 k hk).1) 0 (by simp)
    simpa using h0
  have ht : Turns (fun b => b = g) w (w.setCell ⟨g, k, none⟩ (sl R (hAt l k).length)) := (Turns.refl (fun b => b = g) w).setCell (p := ⟨g, k, none⟩) rfl _
  refine ⟨by simpa using h1, fun j hj => ⟨?_, ?_⟩, fun i => if i = k then R else G i, fun i hi => ?_⟩
  · by_cases e : j = k
    · subst e; rw [hat]; rfl
    · rw [hsame j e]; exact (h2 j hj).1
  · rw [e1, World.frozen?_setCells]; exact (h2 j hj).2
  · by_cases e : i = k
    · subst e
      simp only [if_true]
      refine ⟨hat, hr.turns ht (by omega), hg, fun j hj => ?_⟩
      rw [if_neg (by omega)]
      exact hnew j hj _ (h3 j hj).1
    · obtain ⟨a, b, c, d⟩ := h3 i (by omega)
      simp only [if_neg e]
      refine ⟨(hsame i e).trans a, b.turns ht (by omega), c, fun j hj => ?_⟩
      rw [if_neg (by omega)]
      exact d j hj
theorem FillH.old {w : World} {g n k : Nat} {l : List (List O)} (h : FillH w g n l k) : ∀ j, j < k → ∀ r, w.cell? ⟨g, j, none⟩ = some (sl r (hAt l j).length) → r < w.heap.size := by
  obtain ⟨h1, h2, G, h3⟩ := h
  intro j hj r hr
  obtain ⟨a, b, _⟩ := h3 j hj
  rw [a] at hr
  simp at hr
  exact hr ▸ b.1
theorem FillH.rows {w : World} {g : Nat} {l : List (List O)} (h : FillH w g l.length l l.length) (hl : l.length ≤ maxLen) (hr : ∀ i, (hAt l i).length ≤ maxLen) : HsF (fun k => g ≤ k ∧ k < w.heap.size) w (sl g l.length) l := by
  obtain ⟨h1, h2, G, h3⟩ := h
  refine ⟨fun i => sl (G i) (hAt l i).length, fun k => k = g, fun i k => k = G i, ⟨by simp, _, _, rfl, Nat.le_refl _, hl, .inr ⟨g, rfl, rfl, h1, fun j hj => ?_⟩⟩, fun k e => by subst e; exact ⟨Nat.le_refl _, h1⟩, fun i hi => ⟨(h3 i hi).2.1.row (hr i), fun k e => ?_⟩, fun i j hi hj hij k e1 e2 => ?_⟩
  · have hj' : j < l.length := by omega
    refine ⟨?_, (h2 j hj').2⟩
    rw [(h3 j hj').1]
    simp [hj']
  · obtain ⟨_, b, c, _⟩ := h3 i hi
    subst e
    exact ⟨⟨Nat.le_of_lt c, b.1⟩, by omega⟩
  · rcases Nat.lt_or_gt_of_ne hij with h | h
    · have := (h3 j hj).2.2.2 i h; omega
    · have := (h3 i hi).2.2.2 j h; omega
end Go.Proofs.Ytacgdmojhhdegaa

/- eqOp, eqOpS where both sides are the same. -/
namespace Go.Proofs.Ytacgdmojhhdegaa
open Go.RowKit
/- eqOpSS where both sides are the same. -/
theorem IsO.slice {w : World} {u : Value} {l : List O} (h : IsO w u l) : ∃ a cap, u = .slice a l.length cap := by
  obtain ⟨a, cap, e, _⟩ := h
  exact ⟨a, cap, e⟩
end Go.Proofs.Ytacgdmojhhdegaa

/- eqEvent and eqEventS where both sides are the same. -/
namespace Go.Proofs.Ytacgdmojhhdegaa
open Go.RowKit
end Go.Proofs.Ytacgdmojhhdegaa

/- A struct in a block of its own. -/
namespace Go.Proofs.Ytacgdmojhhdegaa
open Go.RowKit
/- Block P holds just the cells vs. -/
def Bk (w : World) (P : Nat) (T : TypeId) (vs : Array Value) : Prop := w.heap[P]? = some (.cells vs T)
theorem Bk.lt {w : World} {P : Nat} {T : TypeId} {vs : Array Value} (h : Bk w P T vs) : P < w.heap.size := (Array.getElem?_eq_some_iff.1 h).1
theorem Bk.cell {w : World} {P : Nat} {T : TypeId} {vs : Array Value} (h : Bk w P T vs) {i : Nat} {v : Value} (hv : vs[i]? = some v) : w.cell? ⟨P, i, none⟩ = some v := by
  have h' : w.heap[P]? = some (.cells vs T) := h
  unfold World.cell?
  simp [h', hv]
theorem Bk.free {w : World} {P : Nat} {T : TypeId} {vs : Array Value} (h : Bk w P T vs) (o : Nat) : w.frozen? ⟨P, o, none⟩ = false := by
  have h' : w.heap[P]? = some (.cells vs T) := h
  unfold World.frozen?
  simp [h']
theorem Bk.keep {w w' : World} {B P : Nat} {T : TypeId} {vs : Array Value} (h : Bk w P T vs) (hb : Below B w w') (hB : P < B) : Bk w' P T vs := (hb.block P hB).trans h
theorem Bk.below {w w' : World} {P : Nat} {T : TypeId} {vs : Array Value} (h : Bk w P T vs) (hb : Below w.heap.size w w') : Bk w' P T vs := h.keep hb h.lt
theorem Bk.turns {S : Nat → Prop} {w w' : World} {P : Nat} {T : TypeId} {vs : Array Value} (h : Bk w P T vs) (ht : Turns S w w') (hS : ¬ S P) : Bk w' P T vs := (ht.block P h.lt hS).trans h
theorem Bk.drew {w : World} {P : Nat} {T : TypeId} {vs : Array Value} (h : Bk w P T vs) : Bk w.drew P T vs := h
theorem Bk.new (w : World) (T : TypeId) (vs : Array Value) : Bk (w.alloc (.cells vs T)) w.heap.size T vs := by
  show (w.heap.push _)[w.heap.size]? = _
  simp
theorem Bk.newAt {w : World} {P : Nat} (hP : P = w.heap.size) (T : TypeId) (vs : Array Value) : Bk (w.alloc (.cells vs T)) P T vs := hP ▸ Bk.new w T vs
theorem Bk.alloc {w : World} {P : Nat} {T : TypeId} {vs : Array Value} (h : Bk w P T vs) (o : Obj) : Bk (w.alloc o) P T vs := h.keep ((Below.refl w.heap.size w).alloc (Nat.le_refl _) o) h.lt
theorem Bk.put {w : World} {P : Nat} {T : TypeId} {vs : Array Value} (h : Bk w P T vs) (i : Nat) (v : Value) : Bk (w.setCell ⟨P, i, none⟩ v) P T (vs.setIfInBounds i v) := by
  have h' : w.heap[P]? = some (.cells vs T) := h
  obtain ⟨hl, hv⟩ := Array.getElem?_eq_some_iff.1 h'
  unfold Bk
  simp [World.setCell, hl, Array.getElem_modify, hv]
theorem Bk.other {w : World} {P b : Nat} {T : TypeId} {vs : Array Value} (h : Bk w P T vs) (i : Nat) (v : Value) (hb : P ≠ b) : Bk (w.setCell ⟨b, i, none⟩ v) P T vs :=
  (Below.heap_setCell _ _ _ _ hb).trans h
theorem put1_turns (w : World) (g o : Nat) (u : Value) : Turns (fun b => b = g) w (w.setCell ⟨g, o, none⟩ u) := (Turns.refl (fun b => b = g) w).setCell (p := ⟨g, o, none⟩) rfl _
abbrev put6 (w : World) (R : Nat) (v0 v1 v2 v3 v4 v5 : Value) : World :=
  (((((w.setCell ⟨R, 0, none⟩ v0).setCell ⟨R, 1, none⟩ v1).setCell ⟨R, 2, none⟩ v2).setCell ⟨R, 3, none⟩ v3).setCell ⟨R, 4, none⟩ v4).setCell ⟨R, 5, none⟩ v5
theorem Bk.put6 {w : World} {R : Nat} {T : TypeId} {a0 a1 a2 a3 a4 a5 : Value} (h : Bk w R T #[a0, a1, a2, a3, a4, a5]) (v0 v1 v2 v3 v4 v5 : Value) : Bk (put6 w R v0 v1 v2 v3 v4 v5) R T #[v0, v1, v2, v3, v4, v5] :=
  (((((h.put 0 v0).put 1 v1).put 2 v2).put 3 v3).put 4 v4).put 5 v5
theorem put6_turns (w : World) (R : Nat) (v0 v1 v2 v3 v4 v5 : Value) : Turns (fun b => b = R) w (put6 w R v0 v1 v2 v3 v4 v5) :=
  (((((put1_turns w R 0 v0).trans (put1_turns _ R 1 v1)).trans (put1_turns _ R 2 v2)).trans (put1_turns _ R 3 v3)).trans (put1_turns _ R 4 v4)).trans (put1_turns _ R 5 v5)
end Go.Proofs.Ytacgdmojhhdegaa

/- toModel, szModel, eqModel, markModel, heldModel. -/
namespace Go.Proofs.Ytacgdmojhhdegaa
open Go.RowKit
/- How much of a model there may be. -/
structure SmallM (m : Md) : Prop where
  i : m.i.length ≤ 1048576
  h : m.h.length ≤ 1048576
  r : ∀ i, (hAt m.h i).length ≤ 1048576
  t : sumL (lens m.h) m.h.length ≤ 1048576
  e : m.e.length ≤ 1048576
theorem RowI.rowF {w : World} {g : Nat} {l : List Int} (h : RowI w g l) (hl : l.length ≤ maxLen) : RowF (fun k => k = g) w (sl g l.length) l.length 1 (intCells l) := by
  refine ⟨by simp [intCells], _, _, rfl, Nat.le_refl _, hl, .inr ⟨g, rfl, rfl, h.1, fun j hj => ⟨?_, (h.2 j (by omega)).2⟩⟩⟩
  have hj' : j < l.length := by omega
  rw [(h.2 j hj').1]
  simp [intCells, intAt, hj']
theorem RowTo.rowF {w : World} {g : Nat} {l : List Ev} (h : RowTo w g l.length l l.length) (hl : l.length ≤ maxLen) : RowF (fun k => k = g) w (sl g l.length) l.length 7 (cellsL l) := by
  refine ⟨cellsL_length l, _, _, rfl, Nat.le_refl _, hl, .inr ⟨g, rfl, rfl, h.1, fun j hj => ⟨?_, (h.2.1 j hj).2⟩⟩⟩
  have hi : j / 7 < l.length := by omega
  have e := cellsL_get l _ (j % 7) hi (by omega)
  rw [show j / 7 * 7 + j % 7 = j from by omega] at e
  have hlt : j < (cellsL l).length := by rw [cellsL_length]; exact hj
  rw [List.getElem?_eq_getElem hlt] at e ⊢
  have := (h.2.2 _ hi).get e.symm
  rw [show j / 7 * 7 + j % 7 = j from by omega] at this
  exact this
end Go.Proofs.Ytacgdmojhhdegaa

/- szModel, eqModel, markModel, heldModel. -/
namespace Go.Proofs.Ytacgdmojhhdegaa
open Go.RowKit
theorem MdF.form {F : Nat → Prop} {w : World} {y : Value} {m : Md} (h : MdF F w y m) : ∃ ai ci ah ch ae ce, y = .agg #[.int .i64 m.n, .int .i64 m.s, .slice ai m.i.length ci, .slice ah m.h.length ch, .slice ae m.e.length ce, .int .i64 m.z] := by
  obtain ⟨A, B, C, vi, vh, vs, rfl, ⟨_, a1, c1, rfl, _⟩, ⟨U, F0, G, ⟨_, a2, c2, rfl, _⟩, _⟩, ⟨_, a3, c3, rfl, _⟩, _⟩ := h
  exact ⟨a1, c1, a2, c2, a3, c3, rfl⟩
/- The marks that heldModel finds again. -/
def HeldM (F : Nat → Prop) (w : World) (x : Value) (m : Md) : Prop :=
  ∃ (A B C : Nat → Prop) (vi vh vs : Value) (U : Nat → Value), x = .agg #[.int .i64 m.n, .int .i64 m.s, vi, vh, vs, .int .i64 m.z] ∧ RowF A w vi m.i.length 1 (mkCells 1 (m.i.length * 1)) ∧
    RowsF B w vh m.h.length U (lens m.h) (mkRows (1 + (m.i.length : Int)) (lens m.h)) ∧ RowF C w vs m.e.length 7 (mkCells (1 + (m.i.length : Int) + 4 * (sumL (lens m.h) m.h.length : Int)) (m.e.length * 7)) ∧
    (∀ k, A k → F k ∧ ¬ B k ∧ ¬ C k) ∧ (∀ k, B k → F k ∧ ¬ C k) ∧ ∀ k, C k → F k
theorem HeldM.turns {F S : Nat → Prop} {w w' : World} {x : Value} {m : Md} (h : HeldM F w x m) (ht : Turns S w w') (hS : ∀ k, F k → ¬ S k) : HeldM F w' x m := by
  obtain ⟨A, B, C, vi, vh, vs, U, rfl, h1, h2, h3, h4, h5, h6⟩ := h
  exact ⟨A, B, C, vi, vh, vs, U, rfl, h1.turns ht (fun k hk => hS k (h4 k hk).1), h2.turns ht (fun k hk => hS k (h5 k hk).1), h3.turns ht (fun k hk => hS k (h6 k hk)), h4, h5, h6⟩
theorem HeldM.below {F : Nat → Prop} {w w' : World} {x : Value} {m : Md} (h : HeldM F w x m) (hb : Below w.heap.size w w') : HeldM F w' x m :=
  h.turns (S := fun _ => False) (Turns.of_below hb) (fun _ _ => id)
def markNo (m : Md) : Int := 1 + (m.i.length : Int) + 4 * (sumL (lens m.h) m.h.length : Int) + 7 * (m.e.length : Int)
theorem markNo_pos (m : Md) : 1 ≤ markNo m := by unfold markNo; omega

end Go.Proofs.Ytacgdmojhhdegaa

/- Emits as plain values, and as cells. -/
namespace Go.Proofs.Ytacgdmojhhdegaa
open Go.RowKit
structure Em where
  t : Int
  l : Int
  v : Int
def xAt (l : List Em) (i : Nat) : Em := l.getD i ⟨0, 0, 0⟩
def Em.cs (e : Em) : List Value := [.int .i64 e.t, .int .i64 e.l, .int .i64 e.v]
abbrev Em.val (e : Em) : Value := .agg #[.int .i64 e.t, .int .i64 e.l, .int .i64 e.v]
def cellsX : List Em → List Value
  | [] => []
  | e :: l => e.cs ++ cellsX l
theorem cellsX_length : ∀ l : List Em, (cellsX l).length = l.length * 3
  | [] => rfl
  | e :: l => by simp [cellsX, cellsX_length l, Em.cs]; omega
theorem cellsX_append : ∀ l l' : List Em, cellsX (l ++ l') = cellsX l ++ cellsX l'
  | [], _ => rfl
  | e :: l, l' => by simp [cellsX, cellsX_append l l']
theorem xAt_cons_succ (e : Em) (l : List Em) (i : Nat) : xAt (e :: l) (i + 1) = xAt l i := by simp [xAt]
theorem cellsX_get : ∀ (l : List Em) (i r : Nat), i < l.length → r < 3 → (cellsX l)[i * 3 + r]? = (xAt l i).cs[r]?
  | [], _, _, h, _ => by simp at h
  | e :: l, 0, r, _, hr => by
    have : r < e.cs.length := by simpa [Em.cs] using hr
    simp only [cellsX, Nat.zero_mul, Nat.zero_add]
    rw [List.getElem?_append_left this]
    simp [xAt]
  | e :: l, i + 1, r, h, hr => by
    have h1 := cellsX_get l i r (by simpa using h) hr
    have : e.cs.length ≤ (i + 1) * 3 + r := by simp [Em.cs]; omega
    simp only [cellsX]
    rw [List.getElem?_append_right this, xAt_cons_succ, ← h1]
    congr 1
    simp [Em.cs]; omega
theorem cellsX_one (l : List Em) : ∀ u ∈ cellsX l, u.oneCell' = true := by
  induction l with
  | nil => intro u h; cases h
  | cons e l ih =>
    intro u h
    rcases List.mem_append.1 h with h | h
    · simp [Em.cs] at h
      rcases h with rfl | rfl | rfl <;> rfl
    · exact ih u h
end Go.Proofs.Ytacgdmojhhdegaa

