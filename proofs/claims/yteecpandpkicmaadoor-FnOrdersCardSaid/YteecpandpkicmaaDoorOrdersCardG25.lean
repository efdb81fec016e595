/- DownI, LibI, LibPop, PopF -/
import Derived.Test.YteecpandpkicmaaDoorOrdersCardG15
import Derived.Test.YteecpandpkicmaaDoorOrdersCardG24
/- The library's down, over a pile. -/
namespace Go.Proofs.YteecpandpkicmaaDoor
open Go.RowKit
end Go.Proofs.YteecpandpkicmaaDoor

/- The pile's form. -/
namespace Go.Proofs.YteecpandpkicmaaDoor
open Go.RowKit
theorem Pl.form {w : World} {B P : Nat} {v : Value} {l : List Ev} (h : Pl w B P v l) {n : Nat} (hl : l.length = n + 1) : ∃ g cap, v = .slice (some ⟨g, 0, none⟩) (n + 1) cap ∧ Row w B g cap l ∧ P ≠ g := by
  obtain ⟨g, cap, e, hr, hg⟩ := h.rowed (by omega)
  exact ⟨g, cap, by rw [e, hl], hr, hg⟩
theorem Pl.at {w : World} {B P g cap n : Nat} {l : List Ev} (hb : Boxed w P 86 (.slice (some ⟨g, 0, none⟩) n cap)) (hr : Row w B g cap l) (hl : l.length = n) (hB : B ≤ P) : Pl w B P (.slice (some ⟨g, 0, none⟩) n cap) l := by
  subst hl; exact ⟨hb, hr, hB⟩

end Go.Proofs.YteecpandpkicmaaDoor

/- The library's Pop over a pile. -/
namespace Go.Proofs.YteecpandpkicmaaDoor
open Go.RowKit
end Go.Proofs.YteecpandpkicmaaDoor

/- The program's popFirst. -/
namespace Go.Proofs.YteecpandpkicmaaDoor
open Go.RowKit
theorem Turns.later {S : Nat → Prop} {w w1 w2 : World} (h : Turns S w w1) (k : Turns (fun b => w.heap.size ≤ b) w1 w2) : Turns S w w2 :=
  ⟨k.os.trans h.os, k.tape.trans h.tape, k.output.trans h.output, Nat.le_trans h.size k.size, fun i hi hS => (k.block i (Nat.lt_of_lt_of_le hi h.size) (by omega)).trans (h.block i hi hS)⟩
theorem Pl.turns {S : Nat → Prop} {w w' : World} {B P : Nat} {v : Value} {l : List Ev} (h : Pl w B P v l) (ht : Turns S w w') (hP : ¬ S P) (hg : ∀ g, v.ownBlock = Option.some g → ¬ S g) : Pl w' B P v l := by
  refine ⟨(ht.block P h.box.lt hP).trans h.box, ?_, h.low⟩
  obtain ⟨h0, ⟨e, h1⟩ | ⟨g, cap, cur, rfl, hgB, hc, h1⟩⟩ := h.row
  · exact ⟨h0, .inl ⟨e, h1⟩⟩
  · exact ⟨h0, .inr ⟨g, cap, cur, rfl, hgB, (ht.block g (Array.getElem?_eq_some_iff.1 hc).1 (hg g rfl)).trans hc, h1⟩⟩
end Go.Proofs.YteecpandpkicmaaDoor

