/- Both HeapPop; they give the same. -/
import Derived.Test.YthklekjglocbgaaDrop
import Derived.Test.YthklekjglocbgaaPopF
import Derived.Deep.RegionWith
namespace Go.Proofs.Ythklekjglocbgaa
open Go.RowKit
def Answers3 (B : Nat) (l' : List Ev) (f : Ev) (bb : Bool) (e : Ending) (w' : World) : Prop := ∃ x, e = .returned (.tuple #[x, .agg #[.int .i64 f.t, .int .i64 f.s, .int .i64 f.q, .int .i64 f.d, .int .i64 f.k, .int .i64 f.v, .int .i64 f.g], .bool bb]) ∧ OwnEvs B w' x l'
theorem OwnR.turns {S : Nat → Prop} {B : Nat} {w w' : World} {x : Value} {l : List Ev} (h : OwnR B w x l) (ht : Turns S w w') (hS : ∀ k, S k → k < B) : OwnR B w' x l := by
  obtain ⟨h0, ⟨e, h1⟩ | ⟨g, cap, cur, e, hg, hc, h1⟩⟩ := h
  · exact ⟨h0, .inl ⟨e, h1⟩⟩
  · exact ⟨h0, .inr ⟨g, cap, cur, e, hg, (ht.block g (Array.getElem?_eq_some_iff.1 hc).1 (fun hs => by have := hS g hs; omega)).trans hc, h1⟩⟩
theorem Pl.drew {w : World} {B P : Nat} {v : Value} {l : List Ev} (h : Pl w B P v l) : Pl w.drew B P v l := ⟨h.box, World.ownsRow.drew h.row, h.low⟩
def zeroEv : Ev := ⟨0, 0, 0, 0, 0, 0, 0⟩
end Go.Proofs.Ythklekjglocbgaa
