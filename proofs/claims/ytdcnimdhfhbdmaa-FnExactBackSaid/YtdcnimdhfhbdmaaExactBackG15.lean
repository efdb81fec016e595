/- CmpS, Says -/
import Derived.Test.YtdcnimdhfhbdmaaExactBackG00
import Derived.Test.YtdcnimdhfhbdmaaExactBackLOkS
import Derived.Test.YtdcnimdhfhbdmaaExactBackG03
/- The specification's l1cmp. -/
namespace Go.Proofs.Ytdcnimdhfhbdmaa
open Go.RowKit
set_option maxHeartbeats 2000000 in
theorem l1cmp_any (t s q d k v g t' s' q' d' k' v' g' : Int) (w : World) :
  Calls Try.prog 61 #[.agg #[.int .i64 t, .int .i64 s, .int .i64 q, .int .i64 d, .int .i64 k, .int .i64 v, .int .i64 g], .agg #[.int .i64 t', .int .i64 s', .int .i64 q', .int .i64 d', .int .i64 k', .int .i64 v', .int .i64 g']] w fun e w' =>
   e = .returned (.int .i64 (cmpI t s q g t' s' q' g')) ∧ Below w.heap.size w w' := by
 have hb : ∀ o1 o2 : Obj, Below w.heap.size w ((w.alloc o1).alloc o2) := fun o1 o2 => ((Below.refl _ _).alloc (Nat.le_refl _) o1).alloc (by simp) o2
 by_cases h1 : t = t'
 ·subst h1
  by_cases h2 : s = s'
  ·subst h2
   by_cases h3 : q = q'
   ·subst h3
    go_enter Try.func61, Try.ntmps61
    go_wp2_with (go_at_call 84; refine (num_any _ _ _).mono ?_; rintro e w' ⟨rfl, rfl⟩)
    go_ret
    exact ⟨ret_int (by simp [cmpI]), hb _ _⟩
   ·have e3 : (q != q') = true := by simpa using h3
    go_enter Try.func61, Try.ntmps61
    go_wp2_with (go_at_call 84; refine (num_any _ _ _).mono ?_; rintro e w' ⟨rfl, rfl⟩)
    go_ret
    exact ⟨ret_int (by simp [cmpI, h3]), hb _ _⟩
  ·have e2 : (s != s') = true := by simpa using h2
   go_enter Try.func61, Try.ntmps61
   go_wp2_with (go_at_call 84; refine (num_any _ _ _).mono ?_; rintro e w' ⟨rfl, rfl⟩)
   go_ret
   exact ⟨ret_int (by simp [cmpI, h2]), hb _ _⟩
 ·have e1 : (t != t') = true := by simpa using h1
  go_enter Try.func61, Try.ntmps61
  go_wp2_with (go_at_call 84; refine (num_any _ _ _).mono ?_; rintro e w' ⟨rfl, rfl⟩)
  go_ret
  exact ⟨ret_int (by simp [cmpI, h1]), hb _ _⟩

theorem sOk_is (t s q d k v g : Int) (b : Bool) (h : okB t s q d k v g = b) (w : World) :
  Calls Try.prog 26 #[.agg #[.int .i64 t, .int .i64 s, .int .i64 q, .int .i64 d, .int .i64 k, .int .i64 v, .int .i64 g]] w fun e w' => e = .returned (.bool b) ∧ Below w.heap.size w w' := by
 subst h; exact sOk_any t s q d k v g w

end Go.Proofs.Ytdcnimdhfhbdmaa

/- The specification's EventOk and l1cmp of events; what a bool says. -/
namespace Go.Proofs.Ytdcnimdhfhbdmaa
open Go.RowKit
/- A bool is returned that says whether p holds. -/
def Says (e : Ending) (p : Prop) : Prop := ∃ b : Bool, e = .returned (.bool b) ∧ (b = true ↔ p)
theorem Says.yes {p : Prop} (h : p) : Says (.returned (.bool true)) p := ⟨true, rfl, fun _ => h, fun _ => rfl⟩
theorem Says.no {p : Prop} (h : ¬ p) : Says (.returned (.bool false)) p := ⟨false, rfl, fun e => (by cases e), fun e => (h e).elim⟩
theorem Says.dec {p q : Prop} [Decidable q] (h : q ↔ p) : Says (.returned (.bool (decide q))) p := ⟨_, rfl, by simpa using h⟩

theorem sOk_ev (e : Ev) (b : Bool) (h : e.ok = b) (w : World) : Calls Try.prog 26 #[e.val] w fun r w' => r = .returned (.bool b) ∧ Below w.heap.size w w' := sOk_is _ _ _ _ _ _ _ b h w
theorem l1cmp_ev (a b : Ev) (z : Int) (h : a.cmp b = z) (w : World) : Calls Try.prog 61 #[a.val, b.val] w fun r w' => r = .returned (.int .i64 z) ∧ Below w.heap.size w w' := by
 subst h; exact l1cmp_any _ _ _ _ _ _ _ _ _ _ _ _ _ _ w

end Go.Proofs.Ytdcnimdhfhbdmaa

