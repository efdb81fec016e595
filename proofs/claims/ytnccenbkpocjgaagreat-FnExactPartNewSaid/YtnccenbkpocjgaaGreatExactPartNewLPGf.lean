/- The program's goBack. -/
import Derived.Test.YtnccenbkpocjgaaGreatExactPartNewG30
import Derived.Test.YtnccenbkpocjgaaGreatExactPartNewG21
import Derived.Deep.RegionHeld3
import Derived.Test.YtnccenbkpocjgaaGreatExactPartNewG27
import Derived.Test.YtnccenbkpocjgaaGreatExactPartNewG01
import Derived.Test.YtnccenbkpocjgaaGreatExactPartNewLInsD
import Derived.Test.YtnccenbkpocjgaaGreatExactPartNewG08
import Derived.Laws.OwnMore
import Derived.WalkSmall
import Derived.BigRegion
import Derived.Deep.Cut
import Derived.Test.YtnccenbkpocjgaaGreatExactPartNewLPBs
import Derived.Sort.BigQuietIn
import Derived.OrdersIn
import Derived.RangeFuncCalls
import Derived.RangeFuncLeaves
import Derived.RangeFuncBox
import Derived.Test.YtnccenbkpocjgaaGreatExactPartNewG06
import Derived.RangeFuncBound
import Derived.RangeFuncNested
namespace Go.Proofs.YtnccenbkpocjgaaGreat
open Go.RowKit Go.Shelf
attribute [local go_sem] Oper.semAt_some
theorem keepsOthers_of_turns {S : Nat → Prop} {W W' : World} (h : Turns S W W') (hS : ∀ k o, S k → W.heap[k]? = some o → o.isCells = true) : KeepsOthers W W' :=
 ⟨h.size, fun k o hk ho => (h.block k (Array.getElem?_eq_some_iff.1 hk).1 (fun hs => by have := hS k o hs hk; rw [ho] at this; cases this)).trans hk⟩
theorem row_cells {B : Nat} {T : TypeId} {c n : Nat} {w : World} {v : Value} {xs : List Value} (h : w.ownsRow B T c v n xs) {k : Nat} {o : Obj} (hk : v.ownBlock = some k) (ho : w.heap[k]? = some o) : o.isCells = true := by
 obtain ⟨_, ⟨rfl, _⟩ | ⟨g, cap, cur, rfl, _, hc, _⟩⟩ := h
 ·simp [Value.ownBlock] at hk
 ·obtain rfl : g = k := by simpa [Value.ownBlock] using hk
  rw [hc] at ho
  cases ho
  rfl
theorem bk_cells {w : World} {D : Nat} {T : TypeId} {vs : Array Value} {o : Obj} (h : Bk w D T vs) (ho : w.heap[D]? = some o) : o.isCells = true := by
 have h9 : w.heap[D]? = _ := h
 rw [h9] at ho
 cases ho
 rfl
end Go.Proofs.YtnccenbkpocjgaaGreat
