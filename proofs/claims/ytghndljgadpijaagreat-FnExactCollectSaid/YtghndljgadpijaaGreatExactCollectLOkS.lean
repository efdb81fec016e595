/- The specification's EventOk. -/
import Derived.Test.YtghndljgadpijaaGreatExactCollectG01
namespace Go.Proofs.YtghndljgadpijaaGreat
open Go.RowKit
set_option maxHeartbeats 2000000 in
theorem zis (t s q d k v g:Int) (w:World):
    Calls Tryz.prog 174 #[.agg #[.int .i64 t,.int .i64 s,.int .i64 q,.int .i64 d,.int .i64 k,.int .i64 v,.int .i64 g]] w fun e w'=>
      e= .returned (.bool (okB t s q d k v g))∧Below w.heap.size w w':=by
  go_enter Tryz.func174,Tryz.ntmps174
  go_wp2
  all_goals
    go_ret
    refine⟨?_,(Below.refl _ _).alloc (Nat.le_refl _) _⟩
    first|exact yy5 (by simp [okB];omega)|exact ye8 (by simp [okB];omega)
end Go.Proofs.YtghndljgadpijaaGreat
