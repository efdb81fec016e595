/- At every list of numbers and every two numbers the program's Decide answers as the specification's, its answer owns its memory, and it writes into nothing that it is given; no condition. -/
import Derived.Test.YtofbholpggkjcabExactDecideG04
import Derived.Test.YtofbholpggkjcabExactDecideG02
namespace Go.Proofs.Ytofbholpggkjcab.LawExactDecide
open Go.ChangeShapes Go.WideShapes Go.ChangeAt Go.RowKit Go.Proofs.Ytofbholpggkjcab

set_option maxRecDepth 100000 in
set_option maxHeartbeats 8000000 in
theorem walk (x0 : Value) (l0 : List Int) (x1 : Int) (x2 : Int) (w : World) (hx0 : IsI w x0 l0) (_u1 : (Lit.int .i64 x1).wf = true) (_u2 : (Lit.int .i64 x2).wf = true) :
    Calls Try.prog 4 #[x0, .int .i64 x1, .int .i64 x2] w fun e w' => e = .returned (.bool true) ∧ Below w.heap.size w w' := by
  have HX0 : Hid (IsI w x0 l0) := hx0
  obtain ⟨a0, cap0, rfl, p0, q0, _⟩ := hx0
  have m0 : l0.length ≤ 9223372036854775807 := by unfold maxLen at q0; omega
  clear p0 q0
  by_cases hl0 : l0.length ≤ 1048576
  case neg =>
    have hi : (1048576 : Int) < (l0.length : Int) := by omega
    go_enter Try.func4, Try.ntmps4
    go_wp2
    go_ret
    exact ⟨rfl, Below.refl _ _⟩
  have hi0 : ¬ (1048576 : Int) < (l0.length : Int) := by omega
  have hk0 : ¬ ((l0.length : Int) + 1 < 0) := by omega
  have HS : Hid (∃ r b, r.length ≤ 1048576 ∧ (∀ (v0 : Value) (W : World), IsI W v0 l0 → Calls Try.prog 10 #[v0, .int .i64 x1, .int .i64 x2] W fun e w' => ∃ u, e = .returned (.tuple #[u, .bool b]) ∧ OwnI W.heap.size w' u r ∧ Below W.heap.size W w') ∧ (∀ (v0 : Value) (W : World), IsI W v0 l0 → Calls Try.prog 11 #[v0, .int .i64 x1, .int .i64 x2] W fun e w' => ∃ u, e = .returned (.tuple #[u, .bool b]) ∧ OwnI W.heap.size w' u r ∧ Below W.heap.size W w') ∧ b = (decF l0 x1 x2)) := ⟨(decR l0 x1 x2), (decF l0 x1 x2), Nat.le_trans (decR_length l0 x1 x2) hl0, fun v0 W h0 => sDecide_any v0 x1 x2 l0 W hl0 h0, fun v0 W h0 => iDecide_any v0 x1 x2 l0 W hl0 h0, rfl⟩
  obtain ⟨r, b, hr0, hsp, him, hbb⟩ := HS.out
  have HSP : Hid (∀ (v0 : Value) (W : World), IsI W v0 l0 → Calls Try.prog 10 #[v0, .int .i64 x1, .int .i64 x2] W fun e w' => ∃ u, e = .returned (.tuple #[u, .bool b]) ∧ OwnI W.heap.size w' u r ∧ Below W.heap.size W w') := hsp
  have HIM : Hid (∀ (v0 : Value) (W : World), IsI W v0 l0 → Calls Try.prog 11 #[v0, .int .i64 x1, .int .i64 x2] W fun e w' => ∃ u, e = .returned (.tuple #[u, .bool b]) ∧ OwnI W.heap.size w' u r ∧ Below W.heap.size W w') := him
  clear HS hsp him hbb
  go_enter Try.func4, Try.ntmps4
  have HB_w : Hid (Below w.heap.size w w) := Below.refl _ _
  go_wp2_with fail
  refine (toI_any _ l0 _ hl0 (HX0.out.below HB_w.out)).mono ?_
  rintro e w1 ⟨rfl, hb, hr⟩
  have y_w1 : w.heap.size < w1.heap.size := hr.1
  have HP_w1 : Hid (RowI w1 w.heap.size l0) := hr
  have z_w1 : w.heap.size ≤ w1.heap.size := hb.size
  have HB_w1 : Hid (Below w.heap.size w w1) := HB_w.out.trans (hb.mono HB_w.out.size)
  clear HB_w
  clear hb hr
  go_wp2_with fail
  refine (HSP.out _ _ (HP_w1.out.isI (by unfold maxLen; omega))).mono ?_
  rintro e w2 ⟨xs, rfl, ho, hb⟩
  have HS_w2 : Hid (LowI w2.heap.size w2 xs r) := ho.isI.low
  have z_w2 : w1.heap.size ≤ w2.heap.size := hb.size
  have HB_w2 : Hid (Below w.heap.size w w2) := HB_w1.out.trans (hb.mono HB_w1.out.size)
  clear HB_w1 HP_w1
  clear hb ho HSP
  go_wp2_with fail
  refine (toI_any _ l0 _ hl0 (HX0.out.below HB_w2.out)).mono ?_
  rintro e w3 ⟨rfl, hb, hr⟩
  have y_w3 : w2.heap.size < w3.heap.size := hr.1
  have HR_w3 : Hid (RowI w3 w2.heap.size l0) := hr
  have z_w3 : w2.heap.size ≤ w3.heap.size := hb.size
  have HB_w3 : Hid (Below w.heap.size w w3) := HB_w2.out.trans (hb.mono HB_w2.out.size)
  have HS_w3 : Hid (LowI w2.heap.size w3 xs r) := HS_w2.out.below (hb.mono (by omega))
  clear HB_w2 HS_w2
  clear hb hr
  go_wp2_with fail
  refine (HIM.out _ _ (HR_w3.out.isI (by unfold maxLen; omega))).mono ?_
  rintro e w4 ⟨xg, rfl, ho, hb⟩
  have HG_w4 : Hid (OwnI w3.heap.size w4 xg r) := ho
  have z_w4 : w3.heap.size ≤ w4.heap.size := hb.size
  have HB_w4 : Hid (Below w.heap.size w w4) := HB_w3.out.trans (hb.mono HB_w3.out.size)
  have HS_w4 : Hid (LowI w2.heap.size w4 xs r) := HS_w3.out.below (hb.mono (by omega))
  have HR_w4 : Hid (RowI w4 w2.heap.size l0) := HR_w3.out.below hb (by omega)
  clear HB_w3 HS_w3 HR_w3
  clear hb ho
  go_wp2_with fail
  refine (eqI_same _ _ r _ (by omega) HG_w4.out.isI HS_w4.out.isI).mono ?_
  rintro e w5 ⟨rfl, hb⟩
  have z_w5 : w4.heap.size ≤ w5.heap.size := hb.size
  have HB_w5 : Hid (Below w.heap.size w w5) := HB_w4.out.trans (hb.mono HB_w4.out.size)
  have HS_w5 : Hid (LowI w2.heap.size w5 xs r) := HS_w4.out.below (hb.mono (by omega))
  have HR_w5 : Hid (RowI w5 w2.heap.size l0) := HR_w4.out.below hb (by omega)
  have HG_w5 : Hid (OwnI w3.heap.size w5 xg r) := HG_w4.out.below hb
  clear HB_w4 HS_w4 HR_w4 HG_w4
  clear hb
  go_wp2_with fail
  refine (toI_any _ l0 _ hl0 (HX0.out.below HB_w5.out)).mono ?_
  rintro e w6 ⟨rfl, hb, hr⟩
  have y_w6 : w5.heap.size < w6.heap.size := hr.1
  have HT_w6 : Hid (RowI w6 w5.heap.size l0) := hr
  have z_w6 : w5.heap.size ≤ w6.heap.size := hb.size
  have HB_w6 : Hid (Below w.heap.size w w6) := HB_w5.out.trans (hb.mono HB_w5.out.size)
  have HS_w6 : Hid (LowI w2.heap.size w6 xs r) := HS_w5.out.below (hb.mono (by omega))
  have HR_w6 : Hid (RowI w6 w2.heap.size l0) := HR_w5.out.below hb (by omega)
  have HG_w6 : Hid (OwnI w3.heap.size w6 xg r) := HG_w5.out.below hb
  clear HB_w5 HS_w5 HR_w5 HG_w5
  clear hb hr
  go_wp2_with fail
  refine (eqI_same _ _ l0 _ (by omega) (HR_w6.out.isI (by unfold maxLen; omega)) (HT_w6.out.isI (by unfold maxLen; omega))).mono ?_
  rintro e w7 ⟨rfl, hb⟩
  have z_w7 : w6.heap.size ≤ w7.heap.size := hb.size
  have HB_w7 : Hid (Below w.heap.size w w7) := HB_w6.out.trans (hb.mono HB_w6.out.size)
  have HS_w7 : Hid (LowI w2.heap.size w7 xs r) := HS_w6.out.below (hb.mono (by omega))
  have HR_w7 : Hid (RowI w7 w2.heap.size l0) := HR_w6.out.below hb (by omega)
  have HG_w7 : Hid (OwnI w3.heap.size w7 xg r) := HG_w6.out.below hb
  clear HB_w6 HS_w6 HR_w6 HG_w6 HT_w6
  clear hb
  go_wp2_with fail
  refine (markI_any w2.heap.size l0.length l0.length _ (by omega) HR_w7.out.mark).mono ?_
  rintro e w8 ⟨rfl, _, hg⟩
  have z_w8 : w7.heap.size ≤ w8.heap.size := hg.size
  have hbx : Below w2.heap.size w7 w8 := (Below.refl _ w7).grown hg (by omega) (fun k e => by cases e; exact Nat.le_refl _)
  have HB_w8 : Hid (Below w.heap.size w w8) := HB_w7.out.trans (hbx.mono (by omega))
  have HS_w8 : Hid (LowI w2.heap.size w8 xs r) := HS_w7.out.below (hbx.mono (by omega))
  have HG_w8 : Hid (OwnI w3.heap.size w8 xg r) := HG_w7.out.other (by omega) hg
  clear hg hbx HB_w7 HS_w7 HG_w7 HR_w7
  go_wp2_with fail
  refine (eqI_same _ _ r _ (by omega) HG_w8.out.isI HS_w8.out.isI).mono ?_
  rintro e w9 ⟨rfl, hb⟩
  have z_w9 : w8.heap.size ≤ w9.heap.size := hb.size
  have HB_w9 : Hid (Below w.heap.size w w9) := HB_w8.out.trans (hb.mono HB_w8.out.size)
  have HS_w9 : Hid (LowI w2.heap.size w9 xs r) := HS_w8.out.below (hb.mono (by omega))
  have HG_w9 : Hid (OwnI w3.heap.size w9 xg r) := HG_w8.out.below hb
  clear HB_w8 HS_w8 HG_w8
  clear hb
  go_wp2_with fail
  refine (markI_own HG_w9.out (by omega)).mono ?_
  rintro e w10 ⟨m, hm, rfl, hh, ht⟩
  have hbt : Below w3.heap.size w9 w10 := ht.below (by omega)
  have z_w10 : w9.heap.size ≤ w10.heap.size := hbt.size
  have hmn : ¬ (m < 0) := by omega
  have HB_w10 : Hid (Below w.heap.size w w10) := HB_w9.out.trans (hbt.mono (by omega))
  have HS_w10 : Hid (LowI w2.heap.size w10 xs r) := HS_w9.out.below (hbt.mono (by omega))
  have HH_w10 : Hid (HeldI w10 xg m) := hh
  clear hh ht hbt HB_w9 HS_w9 HG_w9
  go_wp2_with fail
  refine (heldI_in HH_w10.out).mono ?_
  rintro e w' ⟨rfl, hw⟩
  have hw' := hw.symm
  clear hw
  subst hw'
  go_wp2_with fail
  refine (toI_any _ l0 _ hl0 (HX0.out.below HB_w10.out)).mono ?_
  rintro e w11 ⟨rfl, hb, hr⟩
  have y_w11 : w10.heap.size < w11.heap.size := hr.1
  have HR_w11 : Hid (RowI w11 w10.heap.size l0) := hr
  have z_w11 : w10.heap.size ≤ w11.heap.size := hb.size
  have HB_w11 : Hid (Below w.heap.size w w11) := HB_w10.out.trans (hb.mono HB_w10.out.size)
  have HS_w11 : Hid (LowI w2.heap.size w11 xs r) := HS_w10.out.below (hb.mono (by omega))
  have HH_w11 : Hid (HeldI w11 xg m) := HH_w10.out.below hb
  clear HB_w10 HS_w10 HH_w10
  clear hb hr
  go_wp2_with fail
  refine (HIM.out _ _ (HR_w11.out.isI (by unfold maxLen; omega))).mono ?_
  rintro e w12 ⟨xh, rfl, ho, hb⟩
  have HK_w12 : Hid (IsI w12 xh r) := ho.isI
  have z_w12 : w11.heap.size ≤ w12.heap.size := hb.size
  have HB_w12 : Hid (Below w.heap.size w w12) := HB_w11.out.trans (hb.mono HB_w11.out.size)
  have HS_w12 : Hid (LowI w2.heap.size w12 xs r) := HS_w11.out.below (hb.mono (by omega))
  have HH_w12 : Hid (HeldI w12 xg m) := HH_w11.out.below hb
  clear HB_w11 HS_w11 HH_w11 HR_w11
  clear hb ho HIM
  go_wp2_with fail
  refine (eqI_same _ _ r _ (by omega) HK_w12.out HS_w12.out.isI).mono ?_
  rintro e w13 ⟨rfl, hb⟩
  have z_w13 : w12.heap.size ≤ w13.heap.size := hb.size
  have HB_w13 : Hid (Below w.heap.size w w13) := HB_w12.out.trans (hb.mono HB_w12.out.size)
  have HS_w13 : Hid (LowI w2.heap.size w13 xs r) := HS_w12.out.below (hb.mono (by omega))
  have HH_w13 : Hid (HeldI w13 xg m) := HH_w12.out.below hb
  clear HB_w12 HS_w12 HH_w12
  clear hb
  clear HK_w12
  go_wp2_with fail
  refine (heldI_in HH_w13.out).mono ?_
  rintro e w' ⟨rfl, hw⟩
  have hw' := hw.symm
  clear hw
  subst hw'
  go_wp2
  go_ret
  exact ⟨rfl, HB_w13.out⟩

set_option maxRecDepth 100000 in
theorem lifted (os : Os) (started : os.Started) (H : Type) (enc : TypeId × Value → H) :
    ReturnsInHanded {} Try.checked os 4 .any (Rows.fnExactDecideSpec.pre6 enc Try.prog Try.f4 Rows.fnExactDecideRow.domain false) (Rows.fnExactDecideSpec.post enc Try.prog Try.f4 false true false false) := by
  refine returnsInHanded_of_change (C := Try.checked) own started (by kernel_rfl) Try.func4
    (ChangeSpec.witness6 (enc := enc) (C := Try.checked) false ⟨#[], #[.slice none 0 0, .int .i64 0, .int .i64 0], []⟩ 8 (by kernel_rfl) (by kernel_rfl) (by kernel_rfl) (by kernel_rfl)) ?_
  intro W base args ds gs before hval0 hW hcnd _
  have hval : ∀ (j : Nat) t v, Try.f4.params[j]? = some t → args[j]? = some v → Value.okWide Try.prog W .any base t v := hval0
  have hW' := hW
  obtain ⟨p, q, hA0, hV, rfl, hfz, hnd⟩ := hW
  have hA : DataW.TrodAll enc Try.prog W 0 (fun _ => true) true Try.f4.params.toList args.toList ds p := hA0
  rw [Try.params4] at hA hval
  obtain ⟨v0, vs0, d0, ds0, p0, q0, hargs, rfl, rfl, h0, r0⟩ := trodAll_cons hA
  obtain ⟨v1, vs1, d1, ds1, p1, q1, rfl, rfl, rfl, h1, r1⟩ := trodAll_cons r0
  obtain ⟨v2, vs2, d2, ds2, p2, q2, rfl, rfl, rfl, h2, r2⟩ := trodAll_cons r1
  obtain ⟨rfl, rfl, rfl⟩ := trodAll_nil r2
  obtain rfl : args = #[v0, v1, v2] := by cases args; simp_all
  obtain ⟨rfl, rfl⟩ := trodVars_none hV
  have k0 := h0
  have lt0 : ∀ x ∈ p0, x.block < W.heap.size := by obtain ⟨m, hm⟩ := k0; exact DataW.trod_lt m _ _ _ hm
  have k1 := h1
  have lt1 : ∀ x ∈ p1, x.block < W.heap.size := by obtain ⟨m, hm⟩ := k1; exact DataW.trod_lt m _ _ _ hm
  have k2 := h2
  have lt2 : ∀ x ∈ p2, x.block < W.heap.size := by obtain ⟨m, hm⟩ := k2; exact DataW.trod_lt m _ _ _ hm
  obtain ⟨l0, g0⟩ := open_ints' (hval 0 22 v0 rfl rfl) h0
  obtain ⟨x1, rfl, rfl, rfl, u1⟩ := open_int Try.underlying3 (hval 1 3 v1 rfl rfl) h1
  obtain ⟨x2, rfl, rfl, rfl, u2⟩ := open_int Try.underlying3 (hval 2 3 v2 rfl rfl) h2
  clear hA0 hval0
  refine (walk v0 l0 x1 x2 W g0 u1 u2).mono fun e W' ⟨he, bel⟩ => ?_
  subst he
  exact ⟨_, rfl, _, _, _, [], _, [], hW', trodAll_mk1 (shut_bool Try.underlying4 _), (trodAll_cons_mk (Below.trod laidOut (by kernel_rfl) (of_decide_eq_true (by kernel_rfl)) k0 bel lt0) (trodAll_cons_mk (shut_int Try.underlying3 u1) (trodAll_cons_mk (shut_int Try.underlying3 u2) trodAll_mk0))), rfl, bel.frame _, fun h => by cases h⟩

theorem over : Rows.fnExactDecideRow.holds Try.pinned (OpenSpec.ofChange Rows.fnExactDecideSpec) :=
  OpenClaim.holds_of_wide 4 Try.f4 rfl rfl rfl rfl rfl rfl rfl ⟨rfl, rfl, rfl, rfl, rfl⟩ rfl rfl rfl rfl rfl (by kernel_rfl) Try.func4 (by kernel_rfl)
    (of_decide_eq_true (by kernel_rfl)) (by unfold Func.isWrapper; first | (rw [if_pos (by decide +kernel)]; kernel_rfl) | (rw [if_neg (by decide +kernel)]; exact ⟨rfl, rfl⟩))
    (fun os started H enc _ => lifted os started H enc)
end Go.Proofs.Ytofbholpggkjcab.LawExactDecide
namespace Go.Proofs.Ytofbholpggkjcab
theorem decide_holds : Rows.FnExactDecideSaid := LawExactDecide.over
#print axioms decide_holds
end Go.Proofs.Ytofbholpggkjcab
