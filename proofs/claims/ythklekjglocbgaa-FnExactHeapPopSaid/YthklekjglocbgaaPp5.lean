/- A part of HeapPop. -/
import Derived.Test.YthklekjglocbgaaPop0
namespace Go.Proofs.Ythklekjglocbgaa
open Go.RowKit
set_option maxRecDepth 100000 in
set_option maxHeartbeats 4000000 in
theorem iPop_nil (g : Nat) (l : List Ev) (w : World) (hl : l.length ≤ 1048576) (hR : RowTo w g l.length l l.length) (hn : l.length = 0) :
    Calls Try.prog 20 #[.slice (some ⟨g, 0, none⟩) l.length l.length] w fun e w' => Answers3 w.heap.size [] zeroEv false e w' ∧ Below w.heap.size w w' := by
  have hgw : g < w.heap.size := hR.1
  have hB0 : Below w.heap.size w (w.alloc (.cells #[.int .i64 0, .int .i64 0, .int .i64 0, .int .i64 0, .int .i64 0, .int .i64 0, .int .i64 0] 33)) := (Below.refl _ w).alloc (Nat.le_refl _) _
  have HR : Hid (RowTo (w.alloc (.cells #[.int .i64 0, .int .i64 0, .int .i64 0, .int .i64 0, .int .i64 0, .int .i64 0, .int .i64 0] 33)) g l.length l l.length) := hR.below hB0 hgw
  have HB0 : Hid (Below w.heap.size w (w.alloc (.cells #[.int .i64 0, .int .i64 0, .int .i64 0, .int .i64 0, .int .i64 0, .int .i64 0, .int .i64 0] 33))) := hB0
  clear hR hB0
  obtain rfl : l = [] := List.eq_nil_of_length_eq_zero hn
  clear hn
  obtain ⟨z0, z1, z2, z3, z4, z5, z6⟩ := (EvAt.new w 33 0 0 0 0 0 0 0).lits
  go_enter Try.func20, Try.ntmps20
  go_wp2
  exact bodyPost_ret (v := .tuple #[.slice none 0 0, .agg #[.int .i64 0, .int .i64 0, .int .i64 0, .int .i64 0, .int .i64 0, .int .i64 0, .int .i64 0], .bool false]) (by simp [results, Try.results20, go_sem]) rfl ⟨⟨_, rfl, OwnEvs.nil _ _⟩, (Below.refl _ w).alloc (Nat.le_refl _) _⟩
end Go.Proofs.Ythklekjglocbgaa
