/- Events as a row of cells; a row of one's own. -/
import Derived.Test.YteecpandpkicmaaEvs
import Derived.OwnWalk
namespace Go.Proofs.Yteecpandpkicmaa
open Go.RowKit
def Ev.cs (e : Ev) : List Value := [.int .i64 e.t, .int .i64 e.s, .int .i64 e.q, .int .i64 e.d, .int .i64 e.k, .int .i64 e.v, .int .i64 e.g]
def cellsL : List Ev → List Value
  | [] => []
  | e :: l => e.cs ++ cellsL l
theorem cellsL_length : ∀ l : List Ev, (cellsL l).length = l.length * 7
  | [] => rfl
  | e :: l => by simp [cellsL, cellsL_length l, Ev.cs]; omega
theorem cellsL_append : ∀ l l' : List Ev, cellsL (l ++ l') = cellsL l ++ cellsL l'
  | [], _ => rfl
  | e :: l, l' => by simp [cellsL, cellsL_append l l']
theorem evAt_cons_succ (e : Ev) (l : List Ev) (i : Nat) : evAt (e :: l) (i + 1) = evAt l i := by simp [evAt]
theorem cellsL_get : ∀ (l : List Ev) (i r : Nat), i < l.length → r < 7 → (cellsL l)[i * 7 + r]? = (evAt l i).cs[r]?
  | [], _, _, h, _ => by simp at h
  | e :: l, 0, r, _, hr => by
    have : r < e.cs.length := by simpa [Ev.cs] using hr
    simp only [cellsL, Nat.zero_mul, Nat.zero_add]
    rw [List.getElem?_append_left this]
    simp [evAt]
  | e :: l, i + 1, r, h, hr => by
    have h1 := cellsL_get l i r (by simpa using h) hr
    have : e.cs.length ≤ (i + 1) * 7 + r := by simp [Ev.cs]; omega
    simp only [cellsL]
    rw [List.getElem?_append_right this, evAt_cons_succ, ← h1]
    congr 1
    simp [Ev.cs]; omega
theorem cellsL_one (l : List Ev) : ∀ u ∈ cellsL l, u.oneCell' = true := by
  induction l with
  | nil => intro u h; cases h
  | cons e l ih =>
    intro u h
    rcases List.mem_append.1 h with h | h
    · simp [Ev.cs] at h
      rcases h with rfl | rfl | rfl | rfl | rfl | rfl | rfl <;> rfl
    · exact ih u h
theorem Ev.In.get {w : World} {b o : Nat} {e : Ev} (h : Ev.In w b o e) {r : Nat} {u : Value} (hu : e.cs[r]? = some u) : w.cell? ⟨b, o + r, none⟩ = some u := by
  have hr : r < 7 := by have := (List.getElem?_eq_some_iff.1 hu).1; simpa [Ev.cs] using this
  have h7 : r = 0 ∨ r = 1 ∨ r = 2 ∨ r = 3 ∨ r = 4 ∨ r = 5 ∨ r = 6 := by omega
  rcases h7 with rfl | rfl | rfl | rfl | rfl | rfl | rfl <;> (simp [Ev.cs] at hu; subst hu)
  · exact h.f0
  · exact h.f1
  · exact h.f2
  · exact h.f3
  · exact h.f4
  · exact h.f5
  · exact h.f6
theorem addr_add (b off n : Nat) : (⟨b, off, none⟩ : Addr).add n = ⟨b, off + n, none⟩ := by
  unfold Addr.add
  split <;> simp_all
theorem EvsAt.cells {w : World} {b off : Nat} {l : List Ev} (h : EvsAt w b off l) : ∀ j u, (cellsL l)[j]? = some u → w.cell? ((⟨b, off, none⟩ : Addr).add j) = some u := by
  intro j u hu
  have hj : j < l.length * 7 := by have := (List.getElem?_eq_some_iff.1 hu).1; rw [cellsL_length] at this; exact this
  rw [addr_add]
  have hi : j / 7 < l.length := by omega
  rw [show j = j / 7 * 7 + j % 7 from by omega, cellsL_get l _ _ hi (by omega)] at hu
  have := (h.2 _ hi).get hu
  rw [show off + j = off + j / 7 * 7 + j % 7 from by omega]
  exact this

/- A slice value over the events l, in a block of its own from B on, all of whose cells may be written. -/
def OwnEvs (B : Nat) (w : World) (x : Value) (l : List Ev) : Prop := ∃ a cap, x = .slice a l.length cap ∧ l.length ≤ cap ∧ cap ≤ maxLen ∧ (l = [] ∨ ∃ g, a = some ⟨g, 0, none⟩ ∧ B ≤ g ∧ RowTo w g l.length l l.length)
theorem OwnEvs.isEvs {B : Nat} {w : World} {x : Value} {l : List Ev} (h : OwnEvs B w x l) : IsEvs w x l := by
  obtain ⟨a, cap, rfl, h1, h2, h⟩ := h
  exact ⟨a, cap, rfl, h1, h2, h.imp id (fun ⟨g, e, _, hr⟩ => ⟨g, 0, e, hr.evs⟩)⟩
theorem OwnEvs.below {B : Nat} {w w' : World} {x : Value} {l : List Ev} (h : OwnEvs B w x l) (hb : Below w.heap.size w w') : OwnEvs B w' x l := by
  obtain ⟨a, cap, rfl, h1, h2, h⟩ := h
  exact ⟨a, cap, rfl, h1, h2, h.imp id (fun ⟨g, e, hg, hr⟩ => ⟨g, e, hg, hr.below hb hr.1⟩)⟩
theorem OwnEvs.of_row {B : Nat} {w : World} {x : Value} {l : List Ev} (h : w.ownsRow B 25 7 x l.length (cellsL l)) : OwnEvs B w x l := by
  obtain ⟨hl, ⟨rfl, h0⟩ | ⟨g, cap, cur, rfl, hg, hc, h1, h2, h3, h4⟩⟩ := h
  · exact ⟨none, 0, by rw [h0], by omega, by unfold maxLen; omega, .inl (List.eq_nil_of_length_eq_zero h0)⟩
  · refine ⟨_, cap, rfl, h1, h2, .inr ⟨g, rfl, hg, (Array.getElem?_eq_some_iff.1 hc).1, fun j hj => ?_, fun i hi => ?_⟩⟩
    · have hj2 : j < cur.size := by rw [h3]; exact Nat.lt_of_lt_of_le hj (Nat.mul_le_mul_right 7 h1)
      simp [World.cell?, World.frozen?, hc, hj2]
    · have hget : ∀ r, r < 7 → w.cell? ⟨g, i * 7 + r, none⟩ = (evAt l i).cs[r]? := fun r hr => by
        rw [← cellsL_get l i r hi hr, ← h4, List.getElem?_take_of_lt (by omega)]
        simp [World.cell?, hc]
      exact ⟨hget 0 (by omega), hget 1 (by omega), hget 2 (by omega), hget 3 (by omega), hget 4 (by omega), hget 5 (by omega), hget 6 (by omega)⟩
end Go.Proofs.Yteecpandpkicmaa
