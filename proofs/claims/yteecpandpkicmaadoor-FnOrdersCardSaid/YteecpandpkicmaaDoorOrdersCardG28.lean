/- HeapS, Mid -/
import Derived.Test.YteecpandpkicmaaDoorOrdersCardG01
import Derived.Test.YteecpandpkicmaaDoorOrdersCardG13
import Derived.Test.YteecpandpkicmaaDoorOrdersCardG04
import Derived.Test.YteecpandpkicmaaDoorOrdersCardG15
import Derived.Test.YteecpandpkicmaaDoorOrdersCardG25
/- The specification's HeapOk. -/
namespace Go.Proofs.YteecpandpkicmaaDoor
open Go.RowKit
def Good1H (l : List Ev) (i : Nat) : Prop := (evAt l i).ok = true ∧ (0 < i → (evAt l ((i - 1) / 2)).cmp (evAt l i) < 0) ∧ ∀ j, j < i → (evAt l j).g ≠ (evAt l i).g
def GoodH (l : List Ev) : Prop := l.length ≤ 2000 ∧ ∀ i, i < l.length → Good1H l i
theorem no_goodH {l : List Ev} {k : Nat} (hk : k < l.length) (h : ¬ Good1H l k) : ¬ GoodH l := fun e => (h (e.2 k hk)).elim
end Go.Proofs.YteecpandpkicmaaDoor

/- Piles and rows, more. -/
namespace Go.Proofs.YteecpandpkicmaaDoor
open Go.RowKit
theorem GoodH.heap {l : List Ev} (h : GoodH l) : HeapL l := fun i h0 hi => (h.2 i hi).2.1 h0
theorem GoodH.oks {l : List Ev} (h : GoodH l) : Kept (fun e => e.ok = true) l := fun i hi => (h.2 i hi).1
theorem Pl.later {w w' : World} {B P : Nat} {v : Value} {l : List Ev} (h : Pl w B P v l) (hb : Below w.heap.size w w') : Pl w' B P v l :=
  ⟨(hb.block P h.box.lt).trans h.box, OwnR.below h.row hb, h.low⟩
theorem ans_of {B : Nat} {w w1 w' : World} {x : Value} {l : List Ev} {bb : Bool} (_hb : Below B w w1) (hB : B ≤ w1.heap.size) (hx : OwnR w1.heap.size w' x l) : Answers B l bb (.returned (.tuple #[x, .bool bb])) w' := ⟨x, rfl, (hx.mono hB).own⟩

theorem Pl.low2 {w w' : World} {B X P : Nat} {v : Value} {l : List Ev} (h : Pl w B P v l) (hb : Below X w w') (hP : P < X) (hg : ∀ g, v.ownBlock = Option.some g → g < X) : Pl w' B P v l := by
  refine ⟨(hb.block P hP).trans h.box, ?_, h.low⟩
  obtain ⟨h0, ⟨e, h1⟩ | ⟨g, cap, cur, rfl, hgB, hc, h1⟩⟩ := h.row
  · exact ⟨h0, .inl ⟨e, h1⟩⟩
  · exact ⟨h0, .inr ⟨g, cap, cur, rfl, hgB, (hb.block g (hg g rfl)).trans hc, h1⟩⟩
theorem OwnR.block {B : Nat} {w : World} {x : Value} {l : List Ev} (h : OwnR B w x l) {g : Nat} (hg : x.ownBlock = some g) : B ≤ g ∧ g < w.heap.size := World.ownsRow.lt h g hg
theorem OwnR.turns {S : Nat → Prop} {B : Nat} {w w' : World} {x : Value} {l : List Ev} (h : OwnR B w x l) (ht : Turns S w w') (hS : ∀ k, S k → k < B) : OwnR B w' x l := by
  obtain ⟨h0, ⟨e, h1⟩ | ⟨g, cap, cur, e, hg, hc, h1⟩⟩ := h
  · exact ⟨h0, .inl ⟨e, h1⟩⟩
  · exact ⟨h0, .inr ⟨g, cap, cur, e, hg, (ht.block g (Array.getElem?_eq_some_iff.1 hc).1 (fun hs => by have := hS g hs; omega)).trans hc, h1⟩⟩
theorem Pl.drew {w : World} {B P : Nat} {v : Value} {l : List Ev} (h : Pl w B P v l) : Pl w.drew B P v l := ⟨h.box, World.ownsRow.drew h.row, h.low⟩
end Go.Proofs.YteecpandpkicmaaDoor

