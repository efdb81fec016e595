/- The specification's EventOk and l1cmp of events; what a bool says. -/
import Derived.Test.YteecpandpkicmaaEvs
import Derived.Test.YteecpandpkicmaaCmpS
import Derived.Test.YteecpandpkicmaaQuiet
namespace Go.Proofs.Yteecpandpkicmaa
open Go.RowKit
/- A bool is returned that says whether p holds. -/
def Says (e : Ending) (p : Prop) : Prop := ∃ b : Bool, e = .returned (.bool b) ∧ (b = true ↔ p)
theorem Says.yes {p : Prop} (h : p) : Says (.returned (.bool true)) p := ⟨true, rfl, fun _ => h, fun _ => rfl⟩
theorem Says.no {p : Prop} (h : ¬ p) : Says (.returned (.bool false)) p := ⟨false, rfl, fun e => (by cases e), fun e => (h e).elim⟩
theorem Says.dec {p q : Prop} [Decidable q] (h : q ↔ p) : Says (.returned (.bool (decide q))) p := ⟨_, rfl, by simpa using h⟩

theorem sOk_ev (e : Ev) (b : Bool) (h : e.ok = b) (w : World) : Calls Try.prog 44 #[e.val] w fun r w' => r = .returned (.bool b) ∧ Below w.heap.size w w' := sOk_is _ _ _ _ _ _ _ b h w
theorem l1cmp_ev (a b : Ev) (z : Int) (h : a.cmp b = z) (w : World) : Calls Try.prog 45 #[a.val, b.val] w fun r w' => r = .returned (.int .i64 z) ∧ Below w.heap.size w w' := by
  subst h; exact l1cmp_any _ _ _ _ _ _ _ _ _ _ _ _ _ _ w

end Go.Proofs.Yteecpandpkicmaa
