/- PA2, HPu, PDb -/
import Derived.Test.YtnccenbkpocjgaaGreatExactPartNewG19
import Derived.Test.YtnccenbkpocjgaaGreatExactPartNewLPBs
import Derived.Test.YtnccenbkpocjgaaGreatExactPartNewG27
import Derived.Test.YtnccenbkpocjgaaGreatExactPartNewG08
import Derived.Sort.BigQuietIn
import Derived.Test.YtnccenbkpocjgaaGreatExactPartNewG21
import Derived.Deep.RegionHeld3
import Derived.Test.YtnccenbkpocjgaaGreatExactPartNewG06
import Derived.Test.YtnccenbkpocjgaaGreatExactPartNewLPOwn
import Derived.Laws.Slices
import Derived.Test.YtnccenbkpocjgaaGreatExactPartNewLMOpJ
import Derived.Deep.Cut
import Derived.Test.YtnccenbkpocjgaaGreatExactPartNewG01
import Derived.Test.YtnccenbkpocjgaaGreatExactPartNewLInsD
import Derived.Laws.OwnMore
import Derived.WalkSmall
import Derived.BigRegion
import Derived.Test.YtnccenbkpocjgaaGreatExactPartNewLEach
/- An answer of a part and a list: what it reads as, what it owns. -/
namespace Go.Proofs.YtnccenbkpocjgaaGreat
open Go.RowKit
theorem PartF.below {F : Nat → Prop} {w w' : World} {x : Value} {p : Pa} (h : PartF F w x p) (hb : Below w.heap.size w w') : PartF F w' x p := h.under hb
end Go.Proofs.YtnccenbkpocjgaaGreat

/- What becomes of a part that hears of an event: in plain words. -/
namespace Go.Proofs.YtnccenbkpocjgaaGreat
open Go.RowKit
def insP (l : List Ev) (e : Ev) : Nat := (l.takeWhile fun q => decide (q.cmp e < 0)).length
theorem insP_at : ∀ (l : List Ev) (e : Ev), InsAt l e (insP l e)
 | [], e => ⟨by simp [insP], fun j hj => by simp [insP] at hj, fun h => by simp [insP] at h⟩
 | q :: l, e => by
  by_cases h : q.cmp e < 0
  ·have e1 : insP (q :: l) e = insP l e + 1 := by simp [insP, h]
   obtain ⟨h1, h2, h3⟩ := insP_at l e
   rw [e1]
   refine ⟨by simpa using h1, fun j hj => ?_, fun hlt => ?_⟩
   ·cases j with
    | zero => simpa [evAt] using h
    | succ j => simpa [evAt] using h2 j (by omega)
   ·have := h3 (by simpa using hlt)
    simpa [evAt] using this
  ·have e1 : insP (q :: l) e = 0 := by simp [insP, h]
   rw [e1]
   exact ⟨Nat.zero_le _, fun j hj => by omega, fun _ => by simpa [evAt] using h⟩
theorem InsAt.uniq {l : List Ev} {e : Ev} {i j : Nat} (hi : InsAt l e i) (hj : InsAt l e j) : i = j := by
 rcases Nat.lt_trichotomy i j with hl | hl | hl
 ·exact absurd (hj.2.1 i hl) (hi.2.2 (by have := hj.1; omega))
 ·exact hl
 ·exact absurd (hi.2.1 j hl) (hj.2.2 (by have := hi.1; omega))
theorem InsAt.is {l : List Ev} {e : Ev} {i : Nat} (h : InsAt l e i) : i = insP l e := h.uniq (insP_at l e)
end Go.Proofs.YtnccenbkpocjgaaGreat

/- slices.Backward over events: what it hands to its loop. -/
namespace Go.Proofs.YtnccenbkpocjgaaGreat
open Go.RowKit Go.Shelf
attribute [local go_sem] Oper.semAt_some
end Go.Proofs.YtnccenbkpocjgaaGreat

