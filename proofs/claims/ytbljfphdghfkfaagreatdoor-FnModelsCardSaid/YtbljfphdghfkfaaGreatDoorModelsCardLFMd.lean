/- What FnModels draws first. -/
import Derived.Test.YtbljfphdghfkfaaGreatDoorModelsCardLLBent
import Derived.Test.YtbljfphdghfkfaaGreatDoorModelsCardG17
namespace Go.Proofs.YtbljfphdghfkfaaGreatDoor
open Go.RowKit
set_option maxRecDepth 100000 in
set_option maxHeartbeats 4000000 in
theorem drawMB_any (a : Option Addr) (n cap : Nat) (w : World) (hn : n ≤ 281474976710656) (hC : CodeIn w w.heap.size a n) :
  Calls Tryz.prog 5 #[.slice a n cap] w fun r w' => ∃ (m : Md) (xm : Value), r = .returned xm ∧ IsM w' xm m ∧ Tiny m ∧ Below w.heap.size w w' := by
 obtain ⟨W0, hW0⟩ : ∃ W0, w.alloc (.cells #[.int .i64 0, .int .i64 0, .slice none 0 0, .slice none 0 0, .slice none 0 0, .int .i64 0] 27) = W0 := ⟨_, rfl⟩
 have hz0 : W0.heap.size = w.heap.size + 1 := by rw [← hW0]; simp
 have R0 : Hid (Bk W0 w.heap.size 27 #[.int .i64 0, .int .i64 0, .slice none 0 0, .slice none 0 0, .slice none 0 0, .int .i64 0]) := hW0 ▸ Bk.new w _ _
 have B0 : Hid (Below w.heap.size w W0) := hW0 ▸ (Below.refl _ w).alloc (Nat.le_refl _) _
 have HC : Hid (CodeIn W0 W0.heap.size a n) := (hC.below B0.out (Nat.le_refl _)).mono (by omega)
 have HW0 : Hid (w.alloc (.cells #[.int .i64 0, .int .i64 0, .slice none 0 0, .slice none 0 0, .slice none 0 0, .int .i64 0] 27) = W0) := hW0
 clear hW0 hC
 go_enter Tryz.func5, Tryz.ntmps5
 go_wp2_with fail
 rw [HW0.out]
 clear HW0
 refine (new_any a n cap _ hn HC.out).mono ?_
 rintro e w1 ⟨c, rfl, hcw, hC1, hB1⟩
 have hcl : c < w1.heap.size := hC1.lt
 have R1 : Hid (Bk w1 w.heap.size 27 #[.int .i64 0, .int .i64 0, .slice none 0 0, .slice none 0 0, .slice none 0 0, .int .i64 0]) := R0.out.below hB1
 have B1 : Hid (Below w.heap.size w w1) := B0.out.trans (hB1.mono B0.out.size)
 have C1 : Hid (Cur w1 c) := hC1
 clear R0 B0 hC1 hB1 HC
 go_wp2_with fail
 refine (l2bent_any c _ C1.out).mono ?_
 rintro e w2 ⟨m, xm, rfl, hM, hTy, hC, hT⟩
 have HM : Hid (MdF (fun k => w1.heap.size ≤ k ∧ k < w2.heap.size) w2 xm m) := hM
 have HTy : Hid (Tiny m) := hTy
 have hz2 : w1.heap.size ≤ w2.heap.size := hT.size
 obtain ⟨A, B, C, vi, vh, vs, hxm, ⟨_, ai, ci, hvi, _⟩, ⟨U, F0, G0, ⟨_, ah, ch, hvh, _⟩, _⟩, ⟨_, ae, ce, hve, _⟩, _⟩ := hM
 subst hvi hvh hve hxm
 clear hTy
 have R2 : Hid (Bk w2 w.heap.size 27 #[.int .i64 0, .int .i64 0, .slice none 0 0, .slice none 0 0, .slice none 0 0, .int .i64 0]) := R1.out.turns hT (by omega)
 have B2 : Hid (Below w.heap.size w w2) := B1.out.trans (hT.to_below (fun k hk => by omega) B1.out.size)
 clear hT hC R1 B1 C1
 have q0 := R2.out.cell (i := 0) rfl
 have q1 := R2.out.cell (i := 1) rfl
 have q2 := R2.out.cell (i := 2) rfl
 have q3 := R2.out.cell (i := 3) rfl
 have q4 := R2.out.cell (i := 4) rfl
 have q5 := R2.out.cell (i := 5) rfl
 have qf := R2.out.free
 obtain ⟨X1, hX1⟩ : ∃ X, put6 w2 w.heap.size (.int .i64 m.n) (.int .i64 m.s) (.slice ai m.i.length ci) (.slice ah m.h.length ch) (.slice ae m.e.length ce) (.int .i64 m.z) = X := ⟨_, rfl⟩
 have HP1 : Hid (Bk X1 w.heap.size 27 #[.int .i64 m.n, .int .i64 m.s, .slice ai m.i.length ci, .slice ah m.h.length ch, .slice ae m.e.length ce, .int .i64 m.z]) := hX1 ▸ R2.out.put6 (.int .i64 m.n) (.int .i64 m.s) (.slice ai m.i.length ci) (.slice ah m.h.length ch) (.slice ae m.e.length ce) (.int .i64 m.z)
 have HT1 : Hid (Turns (fun b => b = w.heap.size) w2 X1) := hX1 ▸ put6_turns w2 w.heap.size (.int .i64 m.n) (.int .i64 m.s) (.slice ai m.i.length ci) (.slice ah m.h.length ch) (.slice ae m.e.length ce) (.int .i64 m.z)
 unfold put6 at hX1
 have a0 := HP1.out.cell (i := 0) rfl
 have a1 := HP1.out.cell (i := 1) rfl
 have a2 := HP1.out.cell (i := 2) rfl
 have a3 := HP1.out.cell (i := 3) rfl
 have a4 := HP1.out.cell (i := 4) rfl
 have a5 := HP1.out.cell (i := 5) rfl
 have HB9 : Hid (Below w.heap.size w X1) := B2.out.trans (HT1.out.to_below (fun k hk => by omega) B2.out.size)
 have HM9 : Hid (IsM X1 (.agg #[.int .i64 m.n, .int .i64 m.s, .slice ai m.i.length ci, .slice ah m.h.length ch, .slice ae m.e.length ce, .int .i64 m.z]) m) := (HM.out.turns HT1.out (fun k hk e => by omega)).isM
 clear R2 B2 HM HP1 HT1
 go_wp2_with fail
 refine bodyPost_ret (v := .agg #[.int .i64 m.n, .int .i64 m.s, .slice ai m.i.length ci, .slice ah m.h.length ch, .slice ae m.e.length ce, .int .i64 m.z]) (by simp [results, Tryz.results5, go_sem, a0, a1, a2, a3, a4, a5]) rfl ⟨m, _, rfl, HM9.out, HTy.out, HB9.out⟩
end Go.Proofs.YtbljfphdghfkfaaGreatDoor
