/- A part of HeapPop. -/
import Derived.Test.YthklekjglocbgaaPop0
namespace Go.Proofs.Ythklekjglocbgaa
open Go.RowKit
set_option maxRecDepth 100000 in
set_option maxHeartbeats 4000000 in
theorem sPop_bad (g : Nat) (l : List Ev) (w : World) (hl : l.length ≤ 1048576) (hR : RowTo w g l.length l l.length) (hg : ¬ GoodH l) (hn : 0 < l.length) :
    Calls Try.prog 19 #[.slice (some ⟨g, 0, none⟩) l.length l.length] w fun e w' => Answers3 w.heap.size [] zeroEv false e w' ∧ Below w.heap.size w w' := by
  have hgw : g < w.heap.size := hR.1
  have hB0 : Below w.heap.size w (w.alloc (.cells #[.int .i64 0, .int .i64 0, .int .i64 0, .int .i64 0, .int .i64 0, .int .i64 0, .int .i64 0] 33)) := (Below.refl _ w).alloc (Nat.le_refl _) _
  have HR : Hid (RowTo (w.alloc (.cells #[.int .i64 0, .int .i64 0, .int .i64 0, .int .i64 0, .int .i64 0, .int .i64 0, .int .i64 0] 33)) g l.length l l.length) := hR.below hB0 hgw
  have HB0 : Hid (Below w.heap.size w (w.alloc (.cells #[.int .i64 0, .int .i64 0, .int .i64 0, .int .i64 0, .int .i64 0, .int .i64 0, .int .i64 0] 33))) := hB0
  clear hR hB0
  have HG : Hid (¬ GoodH l) := hg
  have hlen : ((l.length : Int) == 0) = false := beq_eq_false_iff_ne.2 (by omega)
  have hn0 : ¬ l.length = 0 := by omega
  clear hg
  go_enter Try.func19, Try.ntmps19
  go_wp2_with fail
  refine (sHeap_any g 0 _ l _ hl (Nat.le_refl _) (by unfold maxLen; omega) HR.out.evs).mono ?_
  rintro e w1 ⟨⟨bb, rfl, hs⟩, hb1⟩
  have hbb : bb = false := by cases bb with | false => rfl | true => exact (HG.out (hs.1 rfl)).elim
  subst hbb
  clear hs
  have hz1 : w.heap.size < w1.heap.size := by have := hb1.size; simp at this; omega
  have HB1 : Hid (Below w.heap.size w w1) := HB0.out.trans (hb1.mono (by simp))
  have HR1 : Hid (RowTo w1 g l.length l l.length) := HR.out.below hb1 (by simp; omega)
  have HZ1 : Hid (EvAt w1 w.heap.size 0 0 0 0 0 0 0 0) := (EvAt.new w 33 0 0 0 0 0 0 0).below hb1 (by simp)
  have hfz : ∀ o, w1.frozen? ⟨w.heap.size, o, none⟩ = false := fun o => (hb1.frozen (p := ⟨w.heap.size, o, none⟩) (by simp)).trans (by simp)
  obtain ⟨z0, z1, z2, z3, z4, z5, z6⟩ := HZ1.out.lits
  clear hb1 HR
  go_wp2
  exact bodyPost_ret (v := .tuple #[.slice none 0 0, .agg #[.int .i64 0, .int .i64 0, .int .i64 0, .int .i64 0, .int .i64 0, .int .i64 0, .int .i64 0], .bool false]) (by simp [results, Try.results19, go_sem, z0, z1, z2, z3, z4, z5, z6]) rfl ⟨⟨_, rfl, OwnEvs.nil _ _⟩, put7_below HB1.out (Nat.le_refl _) 0 (⟨0, 0, 0, 0, 0, 0, 0⟩ : Ev)⟩
end Go.Proofs.Ythklekjglocbgaa
