/- CmpS, Says, PTs -/
import Derived.Test.YthfhibnnkpbeiaaGreatExactWorldNewG01
import Derived.Test.YthfhibnnkpbeiaaGreatExactWorldNewLOkS
import Derived.Test.YthfhibnnkpbeiaaGreatExactWorldNewG07
import Derived.Test.YthfhibnnkpbeiaaGreatExactWorldNewLPOwn
import Derived.Laws.Slices
import Derived.Sort.BigQuietIn
/- The specification's l1cmp. -/
namespace Go.Proofs.YthfhibnnkpbeiaaGreat
open Go.RowKit
set_option maxHeartbeats 2000000 in
theorem l1cmp_any (t s q d k v g t' s' q' d' k' v' g' : Int) (w : World) :
  Calls Tryz.prog 112 #[.agg #[.int .i64 t, .int .i64 s, .int .i64 q, .int .i64 d, .int .i64 k, .int .i64 v, .int .i64 g], .agg #[.int .i64 t', .int .i64 s', .int .i64 q', .int .i64 d', .int .i64 k', .int .i64 v', .int .i64 g']] w fun e w' =>
   e = .returned (.int .i64 (cmpI t s q g t' s' q' g')) ∧ Below w.heap.size w w' := by
 have hb : ∀ o1 o2 : Obj, Below w.heap.size w ((w.alloc o1).alloc o2) := fun o1 o2 => ((Below.refl _ _).alloc (Nat.le_refl _) o1).alloc (by simp) o2
 by_cases h1 : t = t'
 ·subst h1
  by_cases h2 : s = s'
  ·subst h2
   by_cases h3 : q = q'
   ·subst h3
    go_enter Tryz.func112, Tryz.ntmps112
    go_wp2_with (go_at_call 126; refine (num_any _ _ _).mono ?_; rintro e w' ⟨rfl, rfl⟩)
    go_ret
    exact ⟨ret_int (by simp [cmpI]), hb _ _⟩
   ·have e3 : (q != q') = true := by simpa using h3
    go_enter Tryz.func112, Tryz.ntmps112
    go_wp2_with (go_at_call 126; refine (num_any _ _ _).mono ?_; rintro e w' ⟨rfl, rfl⟩)
    go_ret
    exact ⟨ret_int (by simp [cmpI, h3]), hb _ _⟩
  ·have e2 : (s != s') = true := by simpa using h2
   go_enter Tryz.func112, Tryz.ntmps112
   go_wp2_with (go_at_call 126; refine (num_any _ _ _).mono ?_; rintro e w' ⟨rfl, rfl⟩)
   go_ret
   exact ⟨ret_int (by simp [cmpI, h2]), hb _ _⟩
 ·have e1 : (t != t') = true := by simpa using h1
  go_enter Tryz.func112, Tryz.ntmps112
  go_wp2_with (go_at_call 126; refine (num_any _ _ _).mono ?_; rintro e w' ⟨rfl, rfl⟩)
  go_ret
  exact ⟨ret_int (by simp [cmpI, h1]), hb _ _⟩
end Go.Proofs.YthfhibnnkpbeiaaGreat

/- The specification's EventOk and l1cmp of events; what a bool says. -/
namespace Go.Proofs.YthfhibnnkpbeiaaGreat
open Go.RowKit
theorem l1cmp_ev (a b : Ev) (z : Int) (h : a.cmp b = z) (w : World) : Calls Tryz.prog 112 #[a.val, b.val] w fun r w' => r = .returned (.int .i64 z) ∧ Below w.heap.size w w' := by
 subst h; exact l1cmp_any _ _ _ _ _ _ _ _ _ _ _ _ _ _ w
end Go.Proofs.YthfhibnnkpbeiaaGreat

/- The specification's cut of a part in two. -/
namespace Go.Proofs.YthfhibnnkpbeiaaGreat
open Go.RowKit
theorem Bk.beyond {W : World} {P : Nat} {T : TypeId} {vs : Array Value} (h : Bk W P T vs) {i : Nat} {v : Value} (hv : vs[i]? = some v) : ∀ p : Beyond W, p.w.cell? ⟨P, i, none⟩ = some v := fun p => p.cell h.lt (h.cell hv)
end Go.Proofs.YthfhibnnkpbeiaaGreat

