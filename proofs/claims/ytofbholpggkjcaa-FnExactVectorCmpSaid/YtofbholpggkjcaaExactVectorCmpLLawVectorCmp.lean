/- At every two lists of numbers the program's VectorCmp answers as the specification's, and writes into nothing that it is given; no condition. -/
import Derived.Test.YtofbholpggkjcaaExactVectorCmpG04
namespace Go.Proofs.Ytofbholpggkjcaa.LawExactVectorCmp
open Go.ChangeShapes Go.WideShapes Go.ChangeAt Go.RowKit Go.Proofs.Ytofbholpggkjcaa

set_option maxRecDepth 100000 in
set_option maxHeartbeats 4000000 in
theorem walk (x0 : Value) (l0 : List Int) (x1 : Value) (l1 : List Int) (w : World) (hx0 : IsI w x0 l0) (hx1 : IsI w x1 l1) :
    Calls Try.prog 6 #[x0, x1] w fun e w' => e = .returned (.bool true) ∧ Below w.heap.size w w' := by
  have HX0 : Hid (IsI w x0 l0) := hx0
  obtain ⟨a0, cap0, rfl, p0, q0, _⟩ := hx0
  have m0 : l0.length ≤ 9223372036854775807 := by unfold maxLen at q0; omega
  clear p0 q0
  have HX1 : Hid (IsI w x1 l1) := hx1
  obtain ⟨a1, cap1, rfl, p1, q1, _⟩ := hx1
  have m1 : l1.length ≤ 9223372036854775807 := by unfold maxLen at q1; omega
  clear p1 q1
  by_cases hl0 : l0.length ≤ 1048576
  case neg =>
    have hi : (1048576 : Int) < (l0.length : Int) := by omega
    go_enter Try.func6, Try.ntmps6
    go_wp2
    go_ret
    exact ⟨rfl, Below.refl _ _⟩
  by_cases hl1 : l1.length ≤ 1048576
  case neg =>
    have hi : (1048576 : Int) < (l1.length : Int) := by omega
    have hj0 : ¬ (1048576 : Int) < (l0.length : Int) := by omega
    go_enter Try.func6, Try.ntmps6
    go_wp2
    go_ret
    exact ⟨rfl, Below.refl _ _⟩
  have hi0 : ¬ (1048576 : Int) < (l0.length : Int) := by omega
  have hi1 : ¬ (1048576 : Int) < (l1.length : Int) := by omega
  have HS : Hid (∃ r, (∀ (v0 v1 : Value) (W : World), IsI W v0 l0 → IsI W v1 l1 → Calls Try.prog 23 #[v0, v1] W fun e w' => e = .returned (.int .i64 r) ∧ Below W.heap.size W w') ∧ (∀ (v0 v1 : Value) (W : World), IsI W v0 l0 → IsI W v1 l1 → Calls Try.prog 24 #[v0, v1] W fun e w' => e = .returned (.int .i64 r) ∧ Below W.heap.size W w')) := ⟨(if (vok l0 && vok l1) = true then cmpV l0 l1 else 0), fun v0 v1 W h0 h1 => sCmp_any v0 v1 l0 l1 W (by omega) (by omega) h0 h1, fun v0 v1 W h0 h1 => iCmp_any v0 v1 l0 l1 W (by omega) (by omega) h0 h1⟩
  obtain ⟨r, hsp, him⟩ := HS.out
  have HSP : Hid (∀ (v0 v1 : Value) (W : World), IsI W v0 l0 → IsI W v1 l1 → Calls Try.prog 23 #[v0, v1] W fun e w' => e = .returned (.int .i64 r) ∧ Below W.heap.size W w') := hsp
  have HIM : Hid (∀ (v0 v1 : Value) (W : World), IsI W v0 l0 → IsI W v1 l1 → Calls Try.prog 24 #[v0, v1] W fun e w' => e = .returned (.int .i64 r) ∧ Below W.heap.size W w') := him
  clear HS hsp him
  go_enter Try.func6, Try.ntmps6
  have HB_w : Hid (Below w.heap.size w w) := Below.refl _ _
  go_wp2_with fail
  refine (toI_any _ l0 _ hl0 (HX0.out.below HB_w.out)).mono ?_
  rintro e w1 ⟨rfl, hb, hr⟩
  have y_w1 : w.heap.size < w1.heap.size := hr.1
  have HP0_w1 : Hid (RowI w1 w.heap.size l0) := hr
  have z_w1 : w.heap.size ≤ w1.heap.size := hb.size
  have HB_w1 : Hid (Below w.heap.size w w1) := HB_w.out.trans (hb.mono HB_w.out.size)
  clear HB_w
  clear hb hr
  go_wp2_with fail
  refine (toI_any _ l1 _ hl1 (HX1.out.below HB_w1.out)).mono ?_
  rintro e w2 ⟨rfl, hb, hr⟩
  have y_w2 : w1.heap.size < w2.heap.size := hr.1
  have HP1_w2 : Hid (RowI w2 w1.heap.size l1) := hr
  have z_w2 : w1.heap.size ≤ w2.heap.size := hb.size
  have HB_w2 : Hid (Below w.heap.size w w2) := HB_w1.out.trans (hb.mono HB_w1.out.size)
  have HP0_w2 : Hid (RowI w2 w.heap.size l0) := HP0_w1.out.below hb (by omega)
  clear HB_w1 HP0_w1
  clear hb hr
  go_wp2_with fail
  refine (HSP.out _ _ _ (HP0_w2.out.isI (by unfold maxLen; omega)) (HP1_w2.out.isI (by unfold maxLen; omega))).mono ?_
  rintro e w3 ⟨rfl, hb⟩
  have z_w3 : w2.heap.size ≤ w3.heap.size := hb.size
  have HB_w3 : Hid (Below w.heap.size w w3) := HB_w2.out.trans (hb.mono HB_w2.out.size)
  clear HB_w2 HP0_w2 HP1_w2
  clear hb HSP
  go_wp2_with fail
  refine (toI_any _ l0 _ hl0 (HX0.out.below HB_w3.out)).mono ?_
  rintro e w4 ⟨rfl, hb, hr⟩
  have y_w4 : w3.heap.size < w4.heap.size := hr.1
  have HR0_w4 : Hid (RowI w4 w3.heap.size l0) := hr
  have z_w4 : w3.heap.size ≤ w4.heap.size := hb.size
  have HB_w4 : Hid (Below w.heap.size w w4) := HB_w3.out.trans (hb.mono HB_w3.out.size)
  clear HB_w3
  clear hb hr
  go_wp2_with fail
  refine (toI_any _ l1 _ hl1 (HX1.out.below HB_w4.out)).mono ?_
  rintro e w5 ⟨rfl, hb, hr⟩
  have y_w5 : w4.heap.size < w5.heap.size := hr.1
  have HR1_w5 : Hid (RowI w5 w4.heap.size l1) := hr
  have z_w5 : w4.heap.size ≤ w5.heap.size := hb.size
  have HB_w5 : Hid (Below w.heap.size w w5) := HB_w4.out.trans (hb.mono HB_w4.out.size)
  have HR0_w5 : Hid (RowI w5 w3.heap.size l0) := HR0_w4.out.below hb (by omega)
  clear HB_w4 HR0_w4
  clear hb hr
  go_wp2_with fail
  refine (HIM.out _ _ _ (HR0_w5.out.isI (by unfold maxLen; omega)) (HR1_w5.out.isI (by unfold maxLen; omega))).mono ?_
  rintro e w6 ⟨rfl, hb⟩
  have z_w6 : w5.heap.size ≤ w6.heap.size := hb.size
  have HB_w6 : Hid (Below w.heap.size w w6) := HB_w5.out.trans (hb.mono HB_w5.out.size)
  have HR0_w6 : Hid (RowI w6 w3.heap.size l0) := HR0_w5.out.below hb (by omega)
  have HR1_w6 : Hid (RowI w6 w4.heap.size l1) := HR1_w5.out.below hb (by omega)
  clear HB_w5 HR0_w5 HR1_w5
  clear hb HIM
  go_wp2_with fail
  refine (toI_any _ l0 _ hl0 (HX0.out.below HB_w6.out)).mono ?_
  rintro e w7 ⟨rfl, hb, hr⟩
  have y_w7 : w6.heap.size < w7.heap.size := hr.1
  have HT_w7 : Hid (RowI w7 w6.heap.size l0) := hr
  have z_w7 : w6.heap.size ≤ w7.heap.size := hb.size
  have HB_w7 : Hid (Below w.heap.size w w7) := HB_w6.out.trans (hb.mono HB_w6.out.size)
  have HR0_w7 : Hid (RowI w7 w3.heap.size l0) := HR0_w6.out.below hb (by omega)
  have HR1_w7 : Hid (RowI w7 w4.heap.size l1) := HR1_w6.out.below hb (by omega)
  clear HB_w6 HR0_w6 HR1_w6
  clear hb hr
  go_wp2_with fail
  refine (eqI_same _ _ l0 _ (by omega) (HR0_w7.out.isI (by unfold maxLen; omega)) (HT_w7.out.isI (by unfold maxLen; omega))).mono ?_
  rintro e w8 ⟨rfl, hb⟩
  have z_w8 : w7.heap.size ≤ w8.heap.size := hb.size
  have HB_w8 : Hid (Below w.heap.size w w8) := HB_w7.out.trans (hb.mono HB_w7.out.size)
  have HR1_w8 : Hid (RowI w8 w4.heap.size l1) := HR1_w7.out.below hb (by omega)
  clear HB_w7 HR0_w7 HR1_w7 HT_w7
  clear hb
  go_wp2_with fail
  refine (toI_any _ l1 _ hl1 (HX1.out.below HB_w8.out)).mono ?_
  rintro e w9 ⟨rfl, hb, hr⟩
  have y_w9 : w8.heap.size < w9.heap.size := hr.1
  have HT_w9 : Hid (RowI w9 w8.heap.size l1) := hr
  have z_w9 : w8.heap.size ≤ w9.heap.size := hb.size
  have HB_w9 : Hid (Below w.heap.size w w9) := HB_w8.out.trans (hb.mono HB_w8.out.size)
  have HR1_w9 : Hid (RowI w9 w4.heap.size l1) := HR1_w8.out.below hb (by omega)
  clear HB_w8 HR1_w8
  clear hb hr
  go_wp2_with fail
  refine (eqI_same _ _ l1 _ (by omega) (HR1_w9.out.isI (by unfold maxLen; omega)) (HT_w9.out.isI (by unfold maxLen; omega))).mono ?_
  rintro e w10 ⟨rfl, hb⟩
  have z_w10 : w9.heap.size ≤ w10.heap.size := hb.size
  have HB_w10 : Hid (Below w.heap.size w w10) := HB_w9.out.trans (hb.mono HB_w9.out.size)
  clear HB_w9 HR1_w9 HT_w9
  clear hb
  go_wp2
  go_ret
  exact ⟨rfl, HB_w10.out⟩

set_option maxRecDepth 100000 in
theorem lifted (os : Os) (started : os.Started) (H : Type) (enc : TypeId × Value → H) :
    ReturnsInHanded {} Try.checked os 6 .any (Rows.fnExactVectorCmpSpec.pre6 enc Try.prog Try.f6 Rows.fnExactVectorCmpRow.domain false) (Rows.fnExactVectorCmpSpec.post enc Try.prog Try.f6 false true false false) := by
  refine returnsInHanded_of_change (C := Try.checked) own started (by kernel_rfl) Try.func6
    (ChangeSpec.witness6 (enc := enc) (C := Try.checked) false ⟨#[], #[.slice none 0 0, .slice none 0 0], []⟩ 8 (by kernel_rfl) (by kernel_rfl) (by kernel_rfl) (by kernel_rfl)) ?_
  intro W base args ds gs before hval0 hW hcnd _
  have hval : ∀ (j : Nat) t v, Try.f6.params[j]? = some t → args[j]? = some v → Value.okWide Try.prog W .any base t v := hval0
  have hW' := hW
  obtain ⟨p, q, hA0, hV, rfl, hfz, hnd⟩ := hW
  have hA : DataW.TrodAll enc Try.prog W 0 (fun _ => true) true Try.f6.params.toList args.toList ds p := hA0
  rw [Try.params6] at hA hval
  obtain ⟨v0, vs0, d0, ds0, p0, q0, hargs, rfl, rfl, h0, r0⟩ := trodAll_cons hA
  obtain ⟨v1, vs1, d1, ds1, p1, q1, rfl, rfl, rfl, h1, r1⟩ := trodAll_cons r0
  obtain ⟨rfl, rfl, rfl⟩ := trodAll_nil r1
  obtain rfl : args = #[v0, v1] := by cases args; simp_all
  obtain ⟨rfl, rfl⟩ := trodVars_none hV
  have k0 := h0
  have lt0 : ∀ x ∈ p0, x.block < W.heap.size := by obtain ⟨m, hm⟩ := k0; exact DataW.trod_lt m _ _ _ hm
  have k1 := h1
  have lt1 : ∀ x ∈ p1, x.block < W.heap.size := by obtain ⟨m, hm⟩ := k1; exact DataW.trod_lt m _ _ _ hm
  obtain ⟨l0, g0⟩ := open_ints' (hval 0 22 v0 rfl rfl) h0
  obtain ⟨l1, g1⟩ := open_ints' (hval 1 22 v1 rfl rfl) h1
  clear hA0 hval0
  refine (walk v0 l0 v1 l1 W g0 g1).mono fun e W' ⟨he, bel⟩ => ?_
  subst he
  exact ⟨_, rfl, _, _, _, [], _, [], hW', trodAll_mk1 (shut_bool Try.underlying4 _), (trodAll_cons_mk (Below.trod laidOut (by kernel_rfl) (of_decide_eq_true (by kernel_rfl)) k0 bel lt0) (trodAll_cons_mk (Below.trod laidOut (by kernel_rfl) (of_decide_eq_true (by kernel_rfl)) k1 bel lt1) trodAll_mk0)), rfl, bel.frame _, fun h => by cases h⟩

theorem over : Rows.fnExactVectorCmpRow.holds Try.pinned (OpenSpec.ofChange Rows.fnExactVectorCmpSpec) :=
  OpenClaim.holds_of_wide 6 Try.f6 rfl rfl rfl rfl rfl rfl rfl ⟨rfl, rfl, rfl, rfl, rfl⟩ rfl rfl rfl rfl rfl (by kernel_rfl) Try.func6 (by kernel_rfl)
    (of_decide_eq_true (by kernel_rfl)) (by unfold Func.isWrapper; first | (rw [if_pos (by decide +kernel)]; kernel_rfl) | (rw [if_neg (by decide +kernel)]; exact ⟨rfl, rfl⟩))
    (fun os started H enc _ => lifted os started H enc)
end Go.Proofs.Ytofbholpggkjcaa.LawExactVectorCmp
namespace Go.Proofs.Ytofbholpggkjcaa
theorem vectorCmp_holds : Rows.FnExactVectorCmpSaid := LawExactVectorCmp.over
#print axioms vectorCmp_holds
end Go.Proofs.Ytofbholpggkjcaa
