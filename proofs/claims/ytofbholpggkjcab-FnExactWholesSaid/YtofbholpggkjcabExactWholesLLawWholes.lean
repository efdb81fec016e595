/- At every list of numbers the program's Wholes answers as the specification's, and writes into nothing that it is given; no condition. -/
import Derived.Test.YtofbholpggkjcabExactWholesG02
import Derived.Test.YtofbholpggkjcabExactWholesG03
namespace Go.Proofs.Ytofbholpggkjcab.LawExactWholes
open Go.ChangeShapes Go.WideShapes Go.ChangeAt Go.RowKit Go.Proofs.Ytofbholpggkjcab

set_option maxRecDepth 100000 in
set_option maxHeartbeats 4000000 in
theorem walk (x0 : Value) (l0 : List Int) (w : World) (hx0 : IsI w x0 l0) :
    Calls Try.prog 3 #[x0] w fun e w' => e = .returned (.bool true) ∧ Below w.heap.size w w' := by
  have HX0 : Hid (IsI w x0 l0) := hx0
  obtain ⟨a0, cap0, rfl, p0, q0, _⟩ := hx0
  have m0 : l0.length ≤ 9223372036854775807 := by unfold maxLen at q0; omega
  clear p0 q0
  by_cases hl0 : l0.length ≤ 1048576
  case neg =>
    have hi : (1048576 : Int) < (l0.length : Int) := by omega
    go_enter Try.func3, Try.ntmps3
    go_wp2
    go_ret
    exact ⟨rfl, Below.refl _ _⟩
  have hi0 : ¬ (1048576 : Int) < (l0.length : Int) := by omega
  have HS : Hid (∃ r, (∀ (v0 : Value) (W : World), IsI W v0 l0 → Calls Try.prog 6 #[v0] W fun e w' => e = .returned (.int .i64 r) ∧ Below W.heap.size W w') ∧ (∀ (v0 : Value) (W : World), IsI W v0 l0 → Calls Try.prog 8 #[v0] W fun e w' => e = .returned (.int .i64 r) ∧ Below W.heap.size W w')) := ⟨(if vok l0 = true then whN l0 else 0), fun v0 W h0 => sWholes_any v0 l0 W (by omega) h0, fun v0 W h0 => iWholes_any v0 l0 W (by omega) h0⟩
  obtain ⟨r, hsp, him⟩ := HS.out
  have HSP : Hid (∀ (v0 : Value) (W : World), IsI W v0 l0 → Calls Try.prog 6 #[v0] W fun e w' => e = .returned (.int .i64 r) ∧ Below W.heap.size W w') := hsp
  have HIM : Hid (∀ (v0 : Value) (W : World), IsI W v0 l0 → Calls Try.prog 8 #[v0] W fun e w' => e = .returned (.int .i64 r) ∧ Below W.heap.size W w') := him
  clear HS hsp him
  go_enter Try.func3, Try.ntmps3
  have HB_w : Hid (Below w.heap.size w w) := Below.refl _ _
  go_wp2_with fail
  refine (toI_any _ l0 _ hl0 (HX0.out.below HB_w.out)).mono ?_
  rintro e w1 ⟨rfl, hb, hr⟩
  have y_w1 : w.heap.size < w1.heap.size := hr.1
  have HP0_w1 : Hid (RowI w1 w.heap.size l0) := hr
  have z_w1 : w.heap.size ≤ w1.heap.size := hb.size
  have HB_w1 : Hid (Below w.heap.size w w1) := HB_w.out.trans (hb.mono HB_w.out.size)
  clear HB_w
  clear hb hr
  go_wp2_with fail
  refine (HSP.out _ _ (HP0_w1.out.isI (by unfold maxLen; omega))).mono ?_
  rintro e w2 ⟨rfl, hb⟩
  have z_w2 : w1.heap.size ≤ w2.heap.size := hb.size
  have HB_w2 : Hid (Below w.heap.size w w2) := HB_w1.out.trans (hb.mono HB_w1.out.size)
  clear HB_w1 HP0_w1
  clear hb HSP
  go_wp2_with fail
  refine (toI_any _ l0 _ hl0 (HX0.out.below HB_w2.out)).mono ?_
  rintro e w3 ⟨rfl, hb, hr⟩
  have y_w3 : w2.heap.size < w3.heap.size := hr.1
  have HR0_w3 : Hid (RowI w3 w2.heap.size l0) := hr
  have z_w3 : w2.heap.size ≤ w3.heap.size := hb.size
  have HB_w3 : Hid (Below w.heap.size w w3) := HB_w2.out.trans (hb.mono HB_w2.out.size)
  clear HB_w2
  clear hb hr
  go_wp2_with fail
  refine (HIM.out _ _ (HR0_w3.out.isI (by unfold maxLen; omega))).mono ?_
  rintro e w4 ⟨rfl, hb⟩
  have z_w4 : w3.heap.size ≤ w4.heap.size := hb.size
  have HB_w4 : Hid (Below w.heap.size w w4) := HB_w3.out.trans (hb.mono HB_w3.out.size)
  have HR0_w4 : Hid (RowI w4 w2.heap.size l0) := HR0_w3.out.below hb (by omega)
  clear HB_w3 HR0_w3
  clear hb HIM
  go_wp2_with fail
  refine (toI_any _ l0 _ hl0 (HX0.out.below HB_w4.out)).mono ?_
  rintro e w5 ⟨rfl, hb, hr⟩
  have y_w5 : w4.heap.size < w5.heap.size := hr.1
  have HT_w5 : Hid (RowI w5 w4.heap.size l0) := hr
  have z_w5 : w4.heap.size ≤ w5.heap.size := hb.size
  have HB_w5 : Hid (Below w.heap.size w w5) := HB_w4.out.trans (hb.mono HB_w4.out.size)
  have HR0_w5 : Hid (RowI w5 w2.heap.size l0) := HR0_w4.out.below hb (by omega)
  clear HB_w4 HR0_w4
  clear hb hr
  go_wp2_with fail
  refine (eqI_same _ _ l0 _ (by omega) (HR0_w5.out.isI (by unfold maxLen; omega)) (HT_w5.out.isI (by unfold maxLen; omega))).mono ?_
  rintro e w6 ⟨rfl, hb⟩
  have z_w6 : w5.heap.size ≤ w6.heap.size := hb.size
  have HB_w6 : Hid (Below w.heap.size w w6) := HB_w5.out.trans (hb.mono HB_w5.out.size)
  clear HB_w5 HR0_w5 HT_w5
  clear hb
  go_wp2
  go_ret
  exact ⟨rfl, HB_w6.out⟩

set_option maxRecDepth 100000 in
theorem lifted (os : Os) (started : os.Started) (H : Type) (enc : TypeId × Value → H) :
    ReturnsInHanded {} Try.checked os 3 .any (Rows.fnExactWholesSpec.pre6 enc Try.prog Try.f3 Rows.fnExactWholesRow.domain false) (Rows.fnExactWholesSpec.post enc Try.prog Try.f3 false true false false) := by
  refine returnsInHanded_of_change (C := Try.checked) own started (by kernel_rfl) Try.func3
    (ChangeSpec.witness6 (enc := enc) (C := Try.checked) false ⟨#[], #[.slice none 0 0], []⟩ 8 (by kernel_rfl) (by kernel_rfl) (by kernel_rfl) (by kernel_rfl)) ?_
  intro W base args ds gs before hval0 hW hcnd _
  have hval : ∀ (j : Nat) t v, Try.f3.params[j]? = some t → args[j]? = some v → Value.okWide Try.prog W .any base t v := hval0
  have hW' := hW
  obtain ⟨p, q, hA0, hV, rfl, hfz, hnd⟩ := hW
  have hA : DataW.TrodAll enc Try.prog W 0 (fun _ => true) true Try.f3.params.toList args.toList ds p := hA0
  rw [Try.params3] at hA hval
  obtain ⟨v0, vs0, d0, ds0, p0, q0, hargs, rfl, rfl, h0, r0⟩ := trodAll_cons hA
  obtain ⟨rfl, rfl, rfl⟩ := trodAll_nil r0
  obtain rfl : args = #[v0] := by cases args; simp_all
  obtain ⟨rfl, rfl⟩ := trodVars_none hV
  have k0 := h0
  have lt0 : ∀ x ∈ p0, x.block < W.heap.size := by obtain ⟨m, hm⟩ := k0; exact DataW.trod_lt m _ _ _ hm
  obtain ⟨l0, g0⟩ := open_ints' (hval 0 22 v0 rfl rfl) h0
  clear hA0 hval0
  refine (walk v0 l0 W g0).mono fun e W' ⟨he, bel⟩ => ?_
  subst he
  exact ⟨_, rfl, _, _, _, [], _, [], hW', trodAll_mk1 (shut_bool Try.underlying4 _), (trodAll_cons_mk (Below.trod laidOut (by kernel_rfl) (of_decide_eq_true (by kernel_rfl)) k0 bel lt0) trodAll_mk0), rfl, bel.frame _, fun h => by cases h⟩

theorem over : Rows.fnExactWholesRow.holds Try.pinned (OpenSpec.ofChange Rows.fnExactWholesSpec) :=
  OpenClaim.holds_of_wide 3 Try.f3 rfl rfl rfl rfl rfl rfl rfl ⟨rfl, rfl, rfl, rfl, rfl⟩ rfl rfl rfl rfl rfl (by kernel_rfl) Try.func3 (by kernel_rfl)
    (of_decide_eq_true (by kernel_rfl)) (by unfold Func.isWrapper; first | (rw [if_pos (by decide +kernel)]; kernel_rfl) | (rw [if_neg (by decide +kernel)]; exact ⟨rfl, rfl⟩))
    (fun os started H enc _ => lifted os started H enc)
end Go.Proofs.Ytofbholpggkjcab.LawExactWholes
namespace Go.Proofs.Ytofbholpggkjcab
theorem wholes_holds : Rows.FnExactWholesSaid := LawExactWholes.over
#print axioms wholes_holds
end Go.Proofs.Ytofbholpggkjcab
