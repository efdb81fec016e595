/- The specification's HeapOk. -/
import Derived.Test.YteecpandpkicmaaFind
import Derived.Test.YteecpandpkicmaaAnswers
import Derived.Test.YteecpandpkicmaaSays
import Derived.Test.YteecpandpkicmaaSteps
namespace Go.Proofs.Yteecpandpkicmaa
open Go.RowKit
def Good1H (l : List Ev) (i : Nat) : Prop := (evAt l i).ok = true ∧ (0 < i → (evAt l ((i - 1) / 2)).cmp (evAt l i) < 0) ∧ ∀ j, j < i → (evAt l j).g ≠ (evAt l i).g
def GoodH (l : List Ev) : Prop := l.length ≤ 2000 ∧ ∀ i, i < l.length → Good1H l i
theorem no_goodH {l : List Ev} {k : Nat} (hk : k < l.length) (h : ¬ Good1H l k) : ¬ GoodH l := fun e => (h (e.2 k hk)).elim
theorem find_some (b off cap : Nat) (l : List Ev) (tag : Int) (i : Nat) (w : World) (hl : l.length ≤ 1048576) (hI : EvsAt w b off l) (hi : FirstAt l tag i) :
    Calls Try.prog 51 #[.slice (some ⟨b, off, none⟩) l.length cap, .int .i64 tag] w fun e w' => e = .returned (.int .i64 (i : Int)) ∧ w' = w :=
  (find_any b off cap l tag w hl hI).mono fun e w' ⟨h, hw⟩ => by
    rcases h with ⟨j, rfl, hj⟩ | ⟨_, hno⟩
    · rw [firstAt_unique hi hj]; exact ⟨rfl, hw⟩
    · exact (hno i hi.1 hi.2.1).elim
theorem find_none (b off cap : Nat) (l : List Ev) (tag : Int) (w : World) (hl : l.length ≤ 1048576) (hI : EvsAt w b off l) (hn : NoTag l tag) :
    Calls Try.prog 51 #[.slice (some ⟨b, off, none⟩) l.length cap, .int .i64 tag] w fun e w' => e = .returned (.int .i64 (-1)) ∧ w' = w :=
  (find_any b off cap l tag w hl hI).mono fun e w' ⟨h, hw⟩ => by
    rcases h with ⟨j, rfl, hj⟩ | ⟨rfl, _⟩
    · exact (hn j hj.1 hj.2.1).elim
    · exact ⟨rfl, hw⟩
end Go.Proofs.Yteecpandpkicmaa
