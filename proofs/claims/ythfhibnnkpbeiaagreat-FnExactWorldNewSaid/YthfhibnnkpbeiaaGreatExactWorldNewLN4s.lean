/- The specification's PartNew. -/
import Derived.Test.YthfhibnnkpbeiaaGreatExactWorldNewG25
import Derived.Test.YthfhibnnkpbeiaaGreatExactWorldNewLPOwn
namespace Go.Proofs.YthfhibnnkpbeiaaGreat
open Go.RowKit
def newOk (m : Md) (lp : Int) : Bool := m.ok && isPart m lp
def newA (m : Md) (lp : Int) : Pa := if newOk m lp = true then newP m lp.toNat else Pa.none
def AnsN (w w' : World) (r : Ending) (a : Pa) (b : Bool) : Prop := ∃ y, r = .returned (.tuple #[y, .bool b]) ∧ Below w.heap.size w w' ∧ PartF (fun k => w.heap.size ≤ k ∧ k < w'.heap.size) w' y a
theorem new_not {m : Md} {lp : Int} (h : newOk m lp = false) : newA m lp = Pa.none ∧ newOk m lp = false := ⟨by unfold newA; rw [if_neg (by rw [h]; simp)], h⟩
theorem new_yes {m : Md} {lp : Int} (h : newOk m lp = true) : newA m lp = newP m lp.toNat ∧ newOk m lp = true := ⟨by unfold newA; rw [if_pos h], h⟩
theorem ok_six {m : Md} (h : m.ok = true) : m.e.length ≤ 6 := by
 rw [ok_parts] at h
 simp only [Bool.and_eq_true, decide_eq_true_eq] at h
 omega
theorem newP_wt {m : Md} {lp : Nat} (h : m.e.length ≤ 6) : (newP m lp).wt ≤ 1000 := by
 have h1 := newL_len lp m.e
 unfold Pa.wt newP firstS
 dsimp only
 rw [ints_wt, evs_wt, ints_wt, pastsD_wt]
 simp [sumL]
 omega
end Go.Proofs.YthfhibnnkpbeiaaGreat
