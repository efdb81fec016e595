/- What stays when one row is marked. -/
import Derived.Test.YthklekjglocbgabAnswers
namespace Go.Proofs.Ythklekjglocbgab
open Go.RowKit

theorem EvsAt.same {w w' : World} {b off : Nat} {l : List Ev} (h : EvsAt w b off l) (hb : w'.heap[b]? = w.heap[b]?) (hs : w.heap.size ≤ w'.heap.size) : EvsAt w' b off l := by
  have hc : ∀ o, w'.cell? ⟨b, o, none⟩ = w.cell? ⟨b, o, none⟩ := fun o => World.cell?_of_block (w := w) hb
  refine ⟨Nat.lt_of_lt_of_le h.1 hs, fun i hi => ?_⟩
  have e := h.2 i hi
  exact ⟨(hc _).trans e.f0, (hc _).trans e.f1, (hc _).trans e.f2, (hc _).trans e.f3, (hc _).trans e.f4, (hc _).trans e.f5, (hc _).trans e.f6⟩
theorem RowTo.same {w w' : World} {g n k : Nat} {l : List Ev} (h : RowTo w g n l k) (hb : w'.heap[g]? = w.heap[g]?) (hs : w.heap.size ≤ w'.heap.size) : RowTo w' g n l k := by
  have hc : ∀ o, w'.cell? ⟨g, o, none⟩ = w.cell? ⟨g, o, none⟩ := fun o => World.cell?_of_block (w := w) hb
  have hf : ∀ o, w'.frozen? ⟨g, o, none⟩ = w.frozen? ⟨g, o, none⟩ := fun o => World.frozen?_of_block (w := w) hb
  refine ⟨Nat.lt_of_lt_of_le h.1 hs, fun j hj => by rw [hc, hf]; exact h.2.1 j hj, fun i hi => ?_⟩
  have e := h.2.2 i hi
  exact ⟨(hc _).trans e.f0, (hc _).trans e.f1, (hc _).trans e.f2, (hc _).trans e.f3, (hc _).trans e.f4, (hc _).trans e.f5, (hc _).trans e.f6⟩

/- At most one row, at or above B, has turned. -/
def Turned (B : Nat) (w w' : World) : Prop := w' = w ∨ ∃ g, B ≤ g ∧ w.grownBy w' (some g)
theorem Turned.below {B : Nat} {w w' : World} (h : Turned B w w') (hB : B ≤ w.heap.size) : Below B w w' := by
  rcases h with rfl | ⟨g, hg, h⟩
  · exact Below.refl _ _
  · exact (Below.refl B w).grown h hB (fun k e => by cases e; exact hg)

/- The marks that heldEventS finds again. -/
def HeldIn (w : World) (x : Value) (m : Int) : Prop := ∃ a n cap, x = .slice a n cap ∧ m = 7 * ((n : Nat) : Int) + 1 ∧ n ≤ 1048577 ∧ (n = 0 ∨ ∃ g, a = some ⟨g, 0, none⟩ ∧ RowTo w g n (marks n) n)
theorem HeldIn.below {w w' : World} {x : Value} {m : Int} (h : HeldIn w x m) (hb : Below w.heap.size w w') : HeldIn w' x m := by
  obtain ⟨a, n, cap, h1, h2, h3, h4⟩ := h
  exact ⟨a, n, cap, h1, h2, h3, h4.imp id (fun ⟨g, e, hr⟩ => ⟨g, e, hr.below hb hr.1⟩)⟩
theorem held_in {w : World} {x : Value} {m : Int} (h : HeldIn w x m) : Calls Try.prog 13 #[x, .int .i64 1] w fun e w' => e = .returned (.int .i64 m) ∧ w' = w := by
  obtain ⟨a, n, cap, rfl, rfl, hn, rfl | ⟨g, rfl, hr⟩⟩ := h
  · exact held_nil a cap w
  · exact held_any g n cap w hn hr

theorem mark_own {B : Nat} {w : World} {x : Value} {l : List Ev} (h : OwnEvs B w x l) (hl : l.length ≤ 1048577) :
    Calls Try.prog 12 #[x, .int .i64 1] w fun e w' => ∃ m : Int, 1 ≤ m ∧ e = .returned (.int .i64 m) ∧ HeldIn w' x m ∧ Turned B w w' := by
  obtain ⟨a, cap, rfl, h1, h2, h⟩ := h
  by_cases h0 : l = []
  · subst h0
    refine (mark_nil a cap w).mono ?_
    rintro e w' ⟨rfl, rfl⟩
    exact ⟨1, by omega, rfl, ⟨a, 0, cap, rfl, by simp, by omega, .inl rfl⟩, .inl rfl⟩
  · obtain ⟨g, rfl, hg, hr⟩ := h.resolve_left h0
    refine (mark_any g l.length cap l w hl ⟨hr.1, hr.2.1, fun i hi => by omega⟩).mono ?_
    rintro e w' ⟨rfl, hr', hgr⟩
    exact ⟨_, by omega, rfl, ⟨_, l.length, cap, rfl, rfl, hl, .inr ⟨g, rfl, hr'⟩⟩, .inr ⟨g, hg, hgr⟩⟩

/- A list that lies in a block below X stays whatever turns at or above X. -/
def LowEvs (X : Nat) (w : World) (x : Value) (l : List Ev) : Prop := ∃ a cap, x = .slice a l.length cap ∧ l.length ≤ cap ∧ cap ≤ maxLen ∧ (l = [] ∨ ∃ b off, a = some ⟨b, off, none⟩ ∧ b < X ∧ EvsAt w b off l)
theorem LowEvs.isEvs {X : Nat} {w : World} {x : Value} {l : List Ev} (h : LowEvs X w x l) : IsEvs w x l := by
  obtain ⟨a, cap, e, h1, h2, h⟩ := h
  exact ⟨a, cap, e, h1, h2, h.imp id (fun ⟨b, off, e, _, h⟩ => ⟨b, off, e, h⟩)⟩
theorem LowEvs.below {X : Nat} {w w' : World} {x : Value} {l : List Ev} (h : LowEvs X w x l) (hb : Below X w w') : LowEvs X w' x l := by
  obtain ⟨a, cap, e, h1, h2, h⟩ := h
  exact ⟨a, cap, e, h1, h2, h.imp id (fun ⟨b, off, e, hX, h⟩ => ⟨b, off, e, hX, h.below hb hX⟩)⟩
theorem IsEvs.low {w : World} {x : Value} {l : List Ev} (h : IsEvs w x l) : LowEvs w.heap.size w x l := by
  obtain ⟨a, cap, e, h1, h2, h⟩ := h
  exact ⟨a, cap, e, h1, h2, h.imp id (fun ⟨b, off, e, h⟩ => ⟨b, off, e, h.1, h⟩)⟩
/- A row of one's own at or above B stays when the row X below B turns. -/
theorem OwnEvs.other {B X : Nat} {w w' : World} {x : Value} {l : List Ev} (h : OwnEvs B w x l) (hX : X < B) (hg : w.grownBy w' (some X)) : OwnEvs B w' x l := by
  obtain ⟨a, cap, e, h1, h2, h⟩ := h
  exact ⟨a, cap, e, h1, h2, h.imp id (fun ⟨g, e, hgB, hr⟩ => ⟨g, e, hgB, hr.same (hg.block g hr.1 (by intro e; cases e; omega)) hg.size⟩)⟩
end Go.Proofs.Ythklekjglocbgab
