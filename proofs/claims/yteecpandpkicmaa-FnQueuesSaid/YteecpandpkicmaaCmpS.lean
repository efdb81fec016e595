/- The specification's l1cmp. -/
import Derived.Test.YteecpandpkicmaaKit
import Derived.Test.YteecpandpkicmaaOkS
namespace Go.Proofs.Yteecpandpkicmaa
open Go.RowKit
set_option maxHeartbeats 2000000 in
theorem l1cmp_any (t s q d k v g t' s' q' d' k' v' g' : Int) (w : World) :
    Calls Try.prog 45 #[.agg #[.int .i64 t, .int .i64 s, .int .i64 q, .int .i64 d, .int .i64 k, .int .i64 v, .int .i64 g], .agg #[.int .i64 t', .int .i64 s', .int .i64 q', .int .i64 d', .int .i64 k', .int .i64 v', .int .i64 g']] w fun e w' =>
      e = .returned (.int .i64 (cmpI t s q g t' s' q' g')) ∧ Below w.heap.size w w' := by
  have hb : ∀ o1 o2 : Obj, Below w.heap.size w ((w.alloc o1).alloc o2) := fun o1 o2 => ((Below.refl _ _).alloc (Nat.le_refl _) o1).alloc (by simp) o2
  by_cases h1 : t = t'
  · subst h1
    by_cases h2 : s = s'
    · subst h2
      by_cases h3 : q = q'
      · subst h3
        go_enter Try.func45, Try.ntmps45
        go_wp2_with (go_at_call 61; refine (num_any _ _ _).mono ?_; rintro e w' ⟨rfl, rfl⟩)
        go_ret
        exact ⟨ret_int (by simp [cmpI]), hb _ _⟩
      · have e3 : (q != q') = true := by simpa using h3
        go_enter Try.func45, Try.ntmps45
        go_wp2_with (go_at_call 61; refine (num_any _ _ _).mono ?_; rintro e w' ⟨rfl, rfl⟩)
        go_ret
        exact ⟨ret_int (by simp [cmpI, h3]), hb _ _⟩
    · have e2 : (s != s') = true := by simpa using h2
      go_enter Try.func45, Try.ntmps45
      go_wp2_with (go_at_call 61; refine (num_any _ _ _).mono ?_; rintro e w' ⟨rfl, rfl⟩)
      go_ret
      exact ⟨ret_int (by simp [cmpI, h2]), hb _ _⟩
  · have e1 : (t != t') = true := by simpa using h1
    go_enter Try.func45, Try.ntmps45
    go_wp2_with (go_at_call 61; refine (num_any _ _ _).mono ?_; rintro e w' ⟨rfl, rfl⟩)
    go_ret
    exact ⟨ret_int (by simp [cmpI, h1]), hb _ _⟩

theorem sOk_is (t s q d k v g : Int) (b : Bool) (h : okB t s q d k v g = b) (w : World) :
    Calls Try.prog 44 #[.agg #[.int .i64 t, .int .i64 s, .int .i64 q, .int .i64 d, .int .i64 k, .int .i64 v, .int .i64 g]] w fun e w' => e = .returned (.bool b) ∧ Below w.heap.size w w' := by
  subst h; exact sOk_any t s q d k v g w

end Go.Proofs.Yteecpandpkicmaa
