/- A list of events in memory, as the walks see it. -/
import Derived.Test.YteecpandpkicmaaKit
import Derived.OwnWalk
namespace Go.Proofs.Yteecpandpkicmaa
open Go.RowKit
abbrev Ev.val (e : Ev) : Value := .agg #[.int .i64 e.t, .int .i64 e.s, .int .i64 e.q, .int .i64 e.d, .int .i64 e.k, .int .i64 e.v, .int .i64 e.g]
abbrev Ev.In (w : World) (b o : Nat) (e : Ev) : Prop := EvAt w b o e.t e.s e.q e.d e.k e.v e.g
/- The value 'x' is a slice over the events 'l', which lie in block b from cell off on. -/
def EvsAt (w : World) (b off : Nat) (l : List Ev) : Prop := b < w.heap.size ∧ ∀ i, i < l.length → Ev.In w b (off + i * 7) (evAt l i)
def IsEvs (w : World) (x : Value) (l : List Ev) : Prop := ∃ a cap, x = .slice a l.length cap ∧ l.length ≤ cap ∧ cap ≤ maxLen ∧ (l = [] ∨ ∃ b off, a = some ⟨b, off, none⟩ ∧ EvsAt w b off l)
theorem EvsAt.below {w w' : World} {B b off : Nat} {l : List Ev} (h : EvsAt w b off l) (hb : Below B w w') (hB : b < B) : EvsAt w' b off l :=
  ⟨Nat.lt_of_lt_of_le h.1 hb.size, fun i hi => (h.2 i hi).below hb hB⟩
theorem IsEvs.below {w w' : World} {x : Value} {l : List Ev} (h : IsEvs w x l) (hb : Below w.heap.size w w') : IsEvs w' x l := by
  obtain ⟨a, cap, rfl, h1, h2, h⟩ := h
  refine ⟨a, cap, rfl, h1, h2, ?_⟩
  rcases h with h | ⟨b, off, rfl, h⟩
  · exact .inl h
  · exact .inr ⟨b, off, rfl, h.below hb h.1⟩

/- The block g holds n rows of seven cells that may be written; the first k of them hold the events of l. -/
def RowTo (w : World) (g n : Nat) (l : List Ev) (k : Nat) : Prop := g < w.heap.size ∧ (∀ j, j < n * 7 → (w.cell? ⟨g, j, none⟩).isSome = true ∧ w.frozen? ⟨g, j, none⟩ = false) ∧ ∀ i, i < k → Ev.In w g (i * 7) (evAt l i)
theorem RowTo.made {w w1 : World} {z : List Value} {n : Nat} {l : List Ev} (h : w1.ownsRow w.heap.size 25 7 (.slice (some ⟨w.heap.size, 0, none⟩) n n) n z) : RowTo w1 w.heap.size n l 0 := by
  obtain ⟨hl, h | ⟨g, cap, cur, e, hg, hc, h1, h2, h3, h4⟩⟩ := h
  · simp at h
  · simp at e
    obtain ⟨rfl, rfl⟩ := e
    have hlt : w.heap.size < w1.heap.size := (Array.getElem?_eq_some_iff.1 hc).1
    refine ⟨hlt, fun j hj => ?_, fun i hi => by omega⟩
    simp [World.cell?, World.frozen?, hc, h3, hj]
theorem RowTo.below {w w' : World} {B g n k : Nat} {l : List Ev} (h : RowTo w g n l k) (hb : Below B w w') (hB : g < B) : RowTo w' g n l k :=
  ⟨Nat.lt_of_lt_of_le h.1 hb.size, fun j hj => by rw [hb.cell (p := ⟨g, j, none⟩) hB, hb.frozen (p := ⟨g, j, none⟩) hB]; exact h.2.1 j hj, fun i hi => (h.2.2 i hi).below hb hB⟩
/- The world behind an event stored at cell o of block g. -/
abbrev put7 (w : World) (g o : Nat) (e : Ev) : World :=
  ((((((w.setCell ⟨g, o, none⟩ (.int .i64 e.t)).setCell ⟨g, o + 1, none⟩ (.int .i64 e.s)).setCell ⟨g, o + 2, none⟩ (.int .i64 e.q)).setCell ⟨g, o + 3, none⟩ (.int .i64 e.d)).setCell ⟨g, o + 4, none⟩ (.int .i64 e.k)).setCell ⟨g, o + 5, none⟩ (.int .i64 e.v)).setCell ⟨g, o + 6, none⟩ (.int .i64 e.g)
theorem put7_eq (w : World) (g o : Nat) (e : Ev) : put7 w g o e = w.setCells g o [.int .i64 e.t, .int .i64 e.s, .int .i64 e.q, .int .i64 e.d, .int .i64 e.k, .int .i64 e.v, .int .i64 e.g] := rfl
theorem put7_in {w : World} {g o : Nat} (e : Ev) (h : ∀ j, j < 7 → (w.cell? ⟨g, o + j, none⟩).isSome = true) : Ev.In (put7 w g o e) g o e := by
  rw [put7_eq]
  have hin := World.cell?_setCells_in g [.int .i64 e.t, .int .i64 e.s, .int .i64 e.q, .int .i64 e.d, .int .i64 e.k, .int .i64 e.v, .int .i64 e.g] o w (by simpa using h)
  exact ⟨hin 0 (by simp), hin 1 (by simp), hin 2 (by simp), hin 3 (by simp), hin 4 (by simp), hin 5 (by simp), hin 6 (by simp)⟩
theorem put7_out {w : World} {g o : Nat} (e : Ev) {b p : Nat} (h : b = g → p < o ∨ o + 7 ≤ p) : (put7 w g o e).cell? ⟨b, p, none⟩ = w.cell? ⟨b, p, none⟩ := by
  rw [put7_eq]
  exact World.cell?_setCells_out g _ o w ⟨b, p, none⟩ (fun hb _ => by simpa using h hb)
theorem put7_evIn {w : World} {g o b p : Nat} (e e' : Ev) (h : Ev.In w b p e') (hd : b = g → p + 7 ≤ o ∨ o + 7 ≤ p) : Ev.In (put7 w g o e) b p e' := by
  have h0 := fun j (_ : j < 7) => put7_out (w := w) (g := g) (o := o) e (b := b) (p := p + j) (fun hb => by have := hd hb; omega)
  exact ⟨(h0 0 (by omega)).trans h.f0, (h0 1 (by omega)).trans h.f1, (h0 2 (by omega)).trans h.f2, (h0 3 (by omega)).trans h.f3, (h0 4 (by omega)).trans h.f4, (h0 5 (by omega)).trans h.f5, (h0 6 (by omega)).trans h.f6⟩
theorem put7_some {w : World} {g o : Nat} (e : Ev) (h : ∀ j, j < 7 → (w.cell? ⟨g, o + j, none⟩).isSome = true) {p : Nat} (hp : (w.cell? ⟨g, p, none⟩).isSome = true) : ((put7 w g o e).cell? ⟨g, p, none⟩).isSome = true := by
  by_cases hr : p < o ∨ o + 7 ≤ p
  · rw [put7_out e (fun _ => hr)]; exact hp
  · obtain ⟨j, rfl⟩ : ∃ j, p = o + j := ⟨p - o, by omega⟩
    rw [put7_eq, World.cell?_setCells_in g _ o w (by simpa using h) j (by simp; omega)]
    rfl
theorem put7_frozen (w : World) (g o : Nat) (e : Ev) (a : Addr) : (put7 w g o e).frozen? a = w.frozen? a := by rw [put7_eq]; exact World.frozen?_setCells _ _ _ _ _
theorem put7_size (w : World) (g o : Nat) (e : Ev) : (put7 w g o e).heap.size = w.heap.size := by simp
theorem put7_below {B : Nat} {a w : World} (h : Below B a w) {g : Nat} (hg : B ≤ g) (o : Nat) (e : Ev) : Below B a (put7 w g o e) :=
  ((((((h.setCell (p := ⟨g, o, none⟩) hg _).setCell (p := ⟨g, o + 1, none⟩) hg _).setCell (p := ⟨g, o + 2, none⟩) hg _).setCell (p := ⟨g, o + 3, none⟩) hg _).setCell (p := ⟨g, o + 4, none⟩) hg _).setCell (p := ⟨g, o + 5, none⟩) hg _).setCell (p := ⟨g, o + 6, none⟩) hg _
theorem RowTo.put {w : World} {g n k : Nat} {l : List Ev} (h : RowTo w g n l k) (hk : k < n) : RowTo (put7 w g (k * 7) (evAt l k)) g n l (k + 1) := by
  obtain ⟨h1, h2, h3⟩ := h
  have hs : ∀ j, j < 7 → (w.cell? ⟨g, k * 7 + j, none⟩).isSome = true := fun j hj => (h2 _ (by omega)).1
  refine ⟨by rw [put7_size]; exact h1, fun j hj => ⟨put7_some _ hs (h2 j hj).1, by rw [put7_frozen]; exact (h2 j hj).2⟩, fun i hi => ?_⟩
  by_cases e : i = k
  · subst e; exact put7_in _ hs
  · exact put7_evIn _ _ (h3 i (by omega)) (fun _ => by omega)
theorem RowTo.cells {w : World} {g n k : Nat} {l : List Ev} (h : RowTo w g n l k) {i : Nat} (hi : i < n) : ∃ c0 c1 c2 c3 c4 c5 c6, (w.cell? ⟨g, i * 7, none⟩ = some c0 ∧ w.cell? ⟨g, i * 7 + 1, none⟩ = some c1 ∧ w.cell? ⟨g, i * 7 + 2, none⟩ = some c2 ∧ w.cell? ⟨g, i * 7 + 3, none⟩ = some c3 ∧ w.cell? ⟨g, i * 7 + 4, none⟩ = some c4 ∧ w.cell? ⟨g, i * 7 + 5, none⟩ = some c5 ∧ w.cell? ⟨g, i * 7 + 6, none⟩ = some c6) ∧
    (w.frozen? ⟨g, i * 7, none⟩ = false ∧ w.frozen? ⟨g, i * 7 + 1, none⟩ = false ∧ w.frozen? ⟨g, i * 7 + 2, none⟩ = false ∧ w.frozen? ⟨g, i * 7 + 3, none⟩ = false ∧ w.frozen? ⟨g, i * 7 + 4, none⟩ = false ∧ w.frozen? ⟨g, i * 7 + 5, none⟩ = false ∧ w.frozen? ⟨g, i * 7 + 6, none⟩ = false) := by
  have hh : ∀ j, j < 7 → (∃ c, w.cell? ⟨g, i * 7 + j, none⟩ = some c) ∧ w.frozen? ⟨g, i * 7 + j, none⟩ = false := fun j hj => ⟨Option.isSome_iff_exists.1 (h.2.1 _ (by omega)).1, (h.2.1 _ (by omega)).2⟩
  obtain ⟨⟨c0, g0⟩, z0⟩ := hh 0 (by omega)
  obtain ⟨⟨c1, g1⟩, z1⟩ := hh 1 (by omega)
  obtain ⟨⟨c2, g2⟩, z2⟩ := hh 2 (by omega)
  obtain ⟨⟨c3, g3⟩, z3⟩ := hh 3 (by omega)
  obtain ⟨⟨c4, g4⟩, z4⟩ := hh 4 (by omega)
  obtain ⟨⟨c5, g5⟩, z5⟩ := hh 5 (by omega)
  obtain ⟨⟨c6, g6⟩, z6⟩ := hh 6 (by omega)
  exact ⟨c0, c1, c2, c3, c4, c5, c6, ⟨g0, g1, g2, g3, g4, g5, g6⟩, ⟨z0, z1, z2, z3, z4, z5, z6⟩⟩
theorem RowTo.evs {w : World} {g : Nat} {l : List Ev} (h : RowTo w g l.length l l.length) : EvsAt w g 0 l :=
  ⟨h.1, fun i hi => by rw [Nat.zero_add]; exact h.2.2 i hi⟩
theorem RowTo.isEvs {w : World} {g : Nat} {l : List Ev} (h : RowTo w g l.length l l.length) (hl : l.length ≤ 1048576) : IsEvs w (.slice (some ⟨g, 0, none⟩) l.length l.length) l :=
  ⟨_, _, rfl, Nat.le_refl _, by unfold maxLen; omega, .inr ⟨g, 0, rfl, h.evs⟩⟩
theorem info25 : (Try.prog.info? 25).map (fun i => (i.zero, i.size, i.bytes)) = some (some (.agg #[.int .i64 0, .int .i64 0, .int .i64 0, .int .i64 0, .int .i64 0, .int .i64 0, .int .i64 0]), 7, 56) := by kernel_rfl
end Go.Proofs.Yteecpandpkicmaa
