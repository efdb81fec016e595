/- At every command the program's CmdOk answers as the specification's, and writes into nothing that it is given; no condition. -/
import Derived.Test.YtkdmdcahnifjpaaGreatExactCmdOkLCkI
import Derived.Test.YtkdmdcahnifjpaaGreatExactCmdOkG03
namespace Go.Proofs.YtkdmdcahnifjpaaGreat.LawExactCmdOk
open Go.ChangeShapes Go.WideShapes Go.ChangeAt Go.RowKit Go.Proofs.YtkdmdcahnifjpaaGreat

set_option maxRecDepth 100000 in
set_option maxHeartbeats 4000000 in
theorem walk (k t a b : Int) (w : World) (_u : wfI k ∧ wfI t ∧ wfI a ∧ wfI b) :
    Calls Tryz.prog 3 #[.agg #[.int .i64 k, .int .i64 t, .int .i64 a, .int .i64 b]] w fun e w' => e = .returned (.bool true) ∧ Below w.heap.size w w' := by
  obtain ⟨W0, hW0⟩ : ∃ W0, w.alloc (.cells #[.int .i64 k, .int .i64 t, .int .i64 a, .int .i64 b] 23) = W0 := ⟨_, rfl⟩
  have HP0 : Hid (Bk W0 w.heap.size 23 #[.int .i64 k, .int .i64 t, .int .i64 a, .int .i64 b]) := by rw [← hW0]; exact Bk.new w _ _
  have HB0 : Hid (Below w.heap.size w W0) := by rw [← hW0]; exact (Below.refl _ w).alloc (Nat.le_refl _) _
  clear _u
  have p0 := HP0.out.cell (i := 0) rfl
  have p1 := HP0.out.cell (i := 1) rfl
  have p2 := HP0.out.cell (i := 2) rfl
  have p3 := HP0.out.cell (i := 3) rfl
  go_enter Tryz.func3, Tryz.ntmps3
  go_wp2_with fail
  clear p0 p1 p2 p3
  try clear hW0
  refine (toCmd_any k t a b _).mono ?_
  rintro e w1 ⟨rfl, hb⟩
  have HP1 : Hid (Bk w1 w.heap.size 23 #[.int .i64 k, .int .i64 t, .int .i64 a, .int .i64 b]) := HP0.out.below hb
  have HB1 : Hid (Below w.heap.size w w1) := HB0.out.trans (hb.mono HB0.out.size)
  clear hb HP0 HB0
  go_wp2_with fail
  refine (sCmd k t a b _).mono ?_
  rintro e w2 ⟨rfl, hb⟩
  have HP2 : Hid (Bk w2 w.heap.size 23 #[.int .i64 k, .int .i64 t, .int .i64 a, .int .i64 b]) := HP1.out.below hb
  have HB2 : Hid (Below w.heap.size w w2) := HB1.out.trans (hb.mono HB1.out.size)
  clear hb HP1 HB1
  have p0 := HP2.out.cell (i := 0) rfl
  have p1 := HP2.out.cell (i := 1) rfl
  have p2 := HP2.out.cell (i := 2) rfl
  have p3 := HP2.out.cell (i := 3) rfl
  go_wp2_with fail
  clear p0 p1 p2 p3
  refine (toCmd_any k t a b _).mono ?_
  rintro e w3 ⟨rfl, hb⟩
  have HP3 : Hid (Bk w3 w.heap.size 23 #[.int .i64 k, .int .i64 t, .int .i64 a, .int .i64 b]) := HP2.out.below hb
  have HB3 : Hid (Below w.heap.size w w3) := HB2.out.trans (hb.mono HB2.out.size)
  clear hb HP2 HB2
  go_wp2_with fail
  refine (iCmd k t a b _).mono ?_
  rintro e w4 ⟨rfl, hb⟩
  have HP4 : Hid (Bk w4 w.heap.size 23 #[.int .i64 k, .int .i64 t, .int .i64 a, .int .i64 b]) := HP3.out.below hb
  have HB4 : Hid (Below w.heap.size w w4) := HB3.out.trans (hb.mono HB3.out.size)
  clear hb HP3 HB3
  cases hr : cmdB k t a b <;>
  · clear hr
    go_wp2
    go_ret
    exact ⟨rfl, HB4.out⟩

set_option maxRecDepth 100000 in
theorem lifted (os : Os) (started : os.Started) (H : Type) (enc : TypeId × Value → H) :
    ReturnsInHanded {} Tryz.checked os 3 .any (Rows.fnExactCmdOkSpec.pre6 enc Tryz.prog Tryz.f3 Rows.fnExactCmdOkRow.domain false) (Rows.fnExactCmdOkSpec.post enc Tryz.prog Tryz.f3 false true false false) := by
  refine returnsInHanded_of_change (C := Tryz.checked) own started (by kernel_rfl) Tryz.func3
    (ChangeSpec.witness6 (enc := enc) (C := Tryz.checked) false ⟨#[], #[.agg #[.int .i64 0, .int .i64 0, .int .i64 0, .int .i64 0]], []⟩ 8 (by kernel_rfl) (by kernel_rfl) (by kernel_rfl) (by kernel_rfl)) ?_
  intro W base args ds gs before hval0 hW hcnd _
  have hval : ∀ (j : Nat) t v, Tryz.f3.params[j]? = some t → args[j]? = some v → Value.okWide Tryz.prog W .any base t v := hval0
  have hW' := hW
  obtain ⟨p, q, hA0, hV, rfl, hfz, hnd⟩ := hW
  have hA : DataW.TrodAll enc Tryz.prog W 0 (fun _ => true) true Tryz.f3.params.toList args.toList ds p := hA0
  rw [Tryz.params3] at hA hval
  obtain ⟨v0, vs0, d0, ds0, p0, q0, hargs, rfl, rfl, h0, r0⟩ := trodAll_cons hA
  obtain ⟨rfl, rfl, rfl⟩ := trodAll_nil r0
  obtain rfl : args = #[v0] := by cases args; simp_all
  obtain ⟨rfl, rfl⟩ := trodVars_none hV
  have kk0 := h0
  have lt0 : ∀ x ∈ p0, x.block < W.heap.size := by obtain ⟨m, hm⟩ := kk0; exact DataW.trod_lt m _ _ _ hm
  obtain ⟨c0, a0, b0, k0, rfl, u0⟩ := open_cmd (hval 0 23 v0 rfl rfl) h0
  clear hA0 hval0
  refine (walk c0 a0 b0 k0 W u0).mono fun e W' ⟨he, bel⟩ => ?_
  subst he
  exact ⟨_, rfl, _, _, _, [], _, [], hW', trodAll_mk1 (shut_bool Tryz.underlying4 _), (trodAll_cons_mk (Below.trod laidOut (by kernel_rfl) (of_decide_eq_true (by kernel_rfl)) kk0 bel lt0) trodAll_mk0), rfl, bel.frame _, fun h => by cases h⟩

theorem over : Rows.fnExactCmdOkRow.holds Tryz.pinned (OpenSpec.ofChange Rows.fnExactCmdOkSpec) :=
  OpenClaim.holds_of_wide 3 Tryz.f3 rfl rfl rfl rfl rfl rfl rfl ⟨rfl, rfl, rfl, rfl, rfl⟩ rfl rfl rfl rfl rfl (by kernel_rfl) Tryz.func3 (by kernel_rfl)
    (of_decide_eq_true (by kernel_rfl)) (by unfold Func.isWrapper; first | (rw [if_pos (by decide +kernel)]; kernel_rfl) | (rw [if_neg (by decide +kernel)]; exact ⟨rfl, rfl⟩))
    (fun os started H enc _ => lifted os started H enc)
end Go.Proofs.YtkdmdcahnifjpaaGreat.LawExactCmdOk
namespace Go.Proofs.YtkdmdcahnifjpaaGreat
theorem cmdOk_holds : Rows.FnExactCmdOkSaid := LawExactCmdOk.over
#print axioms cmdOk_holds
end Go.Proofs.YtkdmdcahnifjpaaGreat
