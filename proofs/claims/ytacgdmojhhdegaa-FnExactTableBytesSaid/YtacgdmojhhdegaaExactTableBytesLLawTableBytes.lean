/- At every list of emits the program's TableBytes answers as the specification's, its answer owns its memory, and it writes into nothing that it is given; no condition. -/
import Derived.Test.YtacgdmojhhdegaaExactTableBytesG05
import Derived.Test.YtacgdmojhhdegaaExactTableBytesG06
namespace Go.Proofs.Ytacgdmojhhdegaa.LawExactTableBytes
open Go.ChangeShapes Go.WideShapes Go.ChangeAt Go.RowKit Go.Proofs.Ytacgdmojhhdegaa

set_option maxRecDepth 100000 in
set_option maxHeartbeats 4000000 in
theorem walk (x : Value) (l0 : List Em) (w : World) (hx : IsX w x l0) :
    Calls Try.prog 3 #[x] w fun e w' => e = .returned (.bool true) ∧ Below w.heap.size w w' := by
  have HX : Hid (IsX w x l0) := hx
  obtain ⟨a0, cap0, rfl, _, _, _⟩ := hx
  go_enter Try.func3, Try.ntmps3
  have HB_w : Hid (Below w.heap.size w w) := Below.refl _ _
  go_wp2_with fail
  refine (sz_ems _ l0 _ _ (by omega) (by omega) HX.out.isD).mono ?_
  rintro e w1 ⟨⟨r0, rfl, hr⟩, hb⟩
  have z_w1 : w.heap.size ≤ w1.heap.size := hb.size
  have HB_w1 : Hid (Below w.heap.size w w1) := HB_w.out.trans (hb.mono HB_w.out.size)
  clear HB_w
  rw [ems_wt] at hr
  clear hb
  rcases hr with rfl | ⟨h0, h1⟩
  · go_wp2
    go_ret
    exact ⟨rfl, HB_w1.out⟩
  have hl : l0.length ≤ 1048576 := by omega
  have hn0 : ¬ r0 < 0 := by omega
  clear h0 h1
  have HC : Hid (∃ r b, r.length ≤ 5242880 ∧ (∀ (v0 : Value) (W : World), IsX W v0 l0 → Calls Try.prog 6 #[v0] W fun e w' => ∃ u, e = .returned (.tuple #[u, .bool b]) ∧ By.OwnI W.heap.size w' u r ∧ Below W.heap.size W w') ∧ (∀ (v0 : Value) (W : World), IsX W v0 l0 → Calls Try.prog 8 #[v0] W fun e w' => ∃ u, e = .returned (.tuple #[u, .bool b]) ∧ By.OwnI W.heap.size w' u r ∧ Below W.heap.size W w')) := ⟨tabR l0, emsC l0, (by unfold tabR; split; rw [tabB_length]; omega; simp), fun v0 W h0 => sTab v0 l0 W hl h0, fun v0 W h0 => iTab v0 l0 W hl h0⟩
  obtain ⟨r, b, hr0, hsp, him⟩ := HC.out
  have HSP : Hid (∀ (v0 : Value) (W : World), IsX W v0 l0 → Calls Try.prog 6 #[v0] W fun e w' => ∃ u, e = .returned (.tuple #[u, .bool b]) ∧ By.OwnI W.heap.size w' u r ∧ Below W.heap.size W w') := hsp
  have HIM : Hid (∀ (v0 : Value) (W : World), IsX W v0 l0 → Calls Try.prog 8 #[v0] W fun e w' => ∃ u, e = .returned (.tuple #[u, .bool b]) ∧ By.OwnI W.heap.size w' u r ∧ Below W.heap.size W w') := him
  clear HC hsp him
  go_wp2_with fail
  clear hn0
  refine (to_ems _ l0 _ hl (HX.out.isD.under HB_w1.out)).mono ?_
  rintro e w2 ⟨y0, rfl, hb, ho⟩
  have HT_w2 : Hid (OwnD w2 (fun k => w1.heap.size ≤ k ∧ k < w2.heap.size) y0 (emsD l0)) := ho
  have z_w2 : w1.heap.size ≤ w2.heap.size := hb.size
  have HB_w2 : Hid (Below w.heap.size w w2) := HB_w1.out.trans (hb.mono HB_w1.out.size)
  clear HB_w1
  clear hb ho
  go_wp2_with fail
  refine (HSP.out _ _ HT_w2.out.isD.isX).mono ?_
  rintro e w3 ⟨xs, rfl, ho, hb⟩
  have HS_w3 : Hid (By.LowI w3.heap.size w3 xs r) := ho.isI.low
  have z_w3 : w2.heap.size ≤ w3.heap.size := hb.size
  have HB_w3 : Hid (Below w.heap.size w w3) := HB_w2.out.trans (hb.mono HB_w2.out.size)
  clear HB_w2 HT_w2
  clear hb ho HSP
  go_wp2_with fail
  refine (to_ems _ l0 _ hl (HX.out.isD.under HB_w3.out)).mono ?_
  rintro e w4 ⟨y1, rfl, hb, ho⟩
  have HR_w4 : Hid (OwnD w4 (fun k => w3.heap.size ≤ k ∧ k < w4.heap.size) y1 (emsD l0)) := ho
  have z_w4 : w3.heap.size ≤ w4.heap.size := hb.size
  have HB_w4 : Hid (Below w.heap.size w w4) := HB_w3.out.trans (hb.mono HB_w3.out.size)
  have HS_w4 : Hid (By.LowI w3.heap.size w4 xs r) := HS_w3.out.below (hb.mono (by omega))
  clear HB_w3 HS_w3
  clear hb ho
  go_wp2_with fail
  refine (HIM.out _ _ HR_w4.out.isD.isX).mono ?_
  rintro e w5 ⟨xg, rfl, ho, hb⟩
  have HG_w5 : Hid (By.OwnI w4.heap.size w5 xg r) := ho
  have z_w5 : w4.heap.size ≤ w5.heap.size := hb.size
  have HB_w5 : Hid (Below w.heap.size w w5) := HB_w4.out.trans (hb.mono HB_w4.out.size)
  have HS_w5 : Hid (By.LowI w3.heap.size w5 xs r) := HS_w4.out.below (hb.mono (by omega))
  have HR_w5 : Hid (OwnD w5 (fun k => w3.heap.size ≤ k ∧ k < w4.heap.size) y1 (emsD l0)) := HR_w4.out.under hb
  clear HB_w4 HS_w4 HR_w4
  clear hb ho
  go_wp2_with fail
  refine (By.eqI_same _ _ r _ (by omega) HG_w5.out.isI HS_w5.out.isI).mono ?_
  rintro e w6 ⟨rfl, hb⟩
  have z_w6 : w5.heap.size ≤ w6.heap.size := hb.size
  have HB_w6 : Hid (Below w.heap.size w w6) := HB_w5.out.trans (hb.mono HB_w5.out.size)
  have HS_w6 : Hid (By.LowI w3.heap.size w6 xs r) := HS_w5.out.below (hb.mono (by omega))
  have HR_w6 : Hid (OwnD w6 (fun k => w3.heap.size ≤ k ∧ k < w4.heap.size) y1 (emsD l0)) := HR_w5.out.under hb
  have HG_w6 : Hid (By.OwnI w4.heap.size w6 xg r) := HG_w5.out.below hb
  clear HB_w5 HS_w5 HR_w5 HG_w5
  clear hb
  go_wp2_with fail
  refine (to_ems _ l0 _ hl (HX.out.isD.under HB_w6.out)).mono ?_
  rintro e w7 ⟨y2, rfl, hb, ho⟩
  have HT_w7 : Hid (OwnD w7 (fun k => w6.heap.size ≤ k ∧ k < w7.heap.size) y2 (emsD l0)) := ho
  have z_w7 : w6.heap.size ≤ w7.heap.size := hb.size
  have HB_w7 : Hid (Below w.heap.size w w7) := HB_w6.out.trans (hb.mono HB_w6.out.size)
  have HS_w7 : Hid (By.LowI w3.heap.size w7 xs r) := HS_w6.out.below (hb.mono (by omega))
  have HR_w7 : Hid (OwnD w7 (fun k => w3.heap.size ≤ k ∧ k < w4.heap.size) y1 (emsD l0)) := HR_w6.out.under hb
  have HG_w7 : Hid (By.OwnI w4.heap.size w7 xg r) := HG_w6.out.below hb
  clear HB_w6 HS_w6 HR_w6 HG_w6
  clear hb ho
  go_wp2_with fail
  refine (eq_ems _ _ l0 _ hl HR_w7.out.isD HT_w7.out.isD).mono ?_
  rintro e w8 ⟨rfl, hb⟩
  have z_w8 : w7.heap.size ≤ w8.heap.size := hb.size
  have HB_w8 : Hid (Below w.heap.size w w8) := HB_w7.out.trans (hb.mono HB_w7.out.size)
  have HS_w8 : Hid (By.LowI w3.heap.size w8 xs r) := HS_w7.out.below (hb.mono (by omega))
  have HR_w8 : Hid (OwnD w8 (fun k => w3.heap.size ≤ k ∧ k < w4.heap.size) y1 (emsD l0)) := HR_w7.out.under hb
  have HG_w8 : Hid (By.OwnI w4.heap.size w8 xg r) := HG_w7.out.below hb
  clear HB_w7 HS_w7 HR_w7 HG_w7 HT_w7
  clear hb
  go_wp2_with fail
  refine (mark_ems 1 (by omega) (by omega) (by omega) HR_w8.out).mono ?_
  rintro e w9 ⟨rfl, _, ht⟩
  have z_w9 : w8.heap.size ≤ w9.heap.size := ht.size
  have hbx : Below w3.heap.size w8 w9 := ht.to_below (fun k e => by omega) (by omega)
  have HB_w9 : Hid (Below w.heap.size w w9) := HB_w8.out.trans (hbx.mono (by omega))
  have HS_w9 : Hid (By.LowI w3.heap.size w9 xs r) := HS_w8.out.below hbx
  have HG_w9 : Hid (By.OwnI w4.heap.size w9 xg r) := HG_w8.out.turns ht (fun k e => by omega)
  have hkn : ¬ ((1 : Int) + (((emsD l0).cnt : Nat) : Int) < 0) := by omega
  clear ht hbx HB_w8 HS_w8 HG_w8 HR_w8
  go_wp2_with fail
  refine (By.eqI_same _ _ r _ (by omega) HG_w9.out.isI HS_w9.out.isI).mono ?_
  rintro e w10 ⟨rfl, hb⟩
  have z_w10 : w9.heap.size ≤ w10.heap.size := hb.size
  have HB_w10 : Hid (Below w.heap.size w w10) := HB_w9.out.trans (hb.mono HB_w9.out.size)
  have HS_w10 : Hid (By.LowI w3.heap.size w10 xs r) := HS_w9.out.below (hb.mono (by omega))
  have HG_w10 : Hid (By.OwnI w4.heap.size w10 xg r) := HG_w9.out.below hb
  clear HB_w9 HS_w9 HG_w9
  clear hb
  go_wp2_with fail
  refine (By.markI_own HG_w10.out (by omega)).mono ?_
  rintro e w11 ⟨mm, hm, rfl, hh, ht⟩
  have hbt : Below w4.heap.size w10 w11 := ht.below (by omega)
  have z_w11 : w10.heap.size ≤ w11.heap.size := hbt.size
  have hmn : ¬ (mm < 0) := by omega
  have HB_w11 : Hid (Below w.heap.size w w11) := HB_w10.out.trans (hbt.mono (by omega))
  have HS_w11 : Hid (By.LowI w3.heap.size w11 xs r) := HS_w10.out.below (hbt.mono (by omega))
  have HH_w11 : Hid (By.HeldI w11 xg mm) := hh
  clear hh ht hbt HB_w10 HS_w10 HG_w10
  go_wp2_with fail
  refine (By.heldI_in HH_w11.out).mono ?_
  rintro e w' ⟨rfl, hw⟩
  have hw' := hw.symm
  clear hw
  subst hw'
  go_wp2_with fail
  refine (to_ems _ l0 _ hl (HX.out.isD.under HB_w11.out)).mono ?_
  rintro e w12 ⟨y3, rfl, hb, ho⟩
  have HT_w12 : Hid (OwnD w12 (fun k => w11.heap.size ≤ k ∧ k < w12.heap.size) y3 (emsD l0)) := ho
  have z_w12 : w11.heap.size ≤ w12.heap.size := hb.size
  have HB_w12 : Hid (Below w.heap.size w w12) := HB_w11.out.trans (hb.mono HB_w11.out.size)
  have HS_w12 : Hid (By.LowI w3.heap.size w12 xs r) := HS_w11.out.below (hb.mono (by omega))
  have HH_w12 : Hid (By.HeldI w12 xg mm) := HH_w11.out.below hb
  clear HB_w11 HS_w11 HH_w11
  clear hb ho
  go_wp2_with fail
  refine (HIM.out _ _ HT_w12.out.isD.isX).mono ?_
  rintro e w13 ⟨xh, rfl, ho, hb⟩
  have HK_w13 : Hid (By.IsI w13 xh r) := ho.isI
  have z_w13 : w12.heap.size ≤ w13.heap.size := hb.size
  have HB_w13 : Hid (Below w.heap.size w w13) := HB_w12.out.trans (hb.mono HB_w12.out.size)
  have HS_w13 : Hid (By.LowI w3.heap.size w13 xs r) := HS_w12.out.below (hb.mono (by omega))
  have HH_w13 : Hid (By.HeldI w13 xg mm) := HH_w12.out.below hb
  clear HB_w12 HS_w12 HH_w12 HT_w12
  clear hb ho HIM
  go_wp2_with fail
  refine (By.eqI_same _ _ r _ (by omega) HK_w13.out HS_w13.out.isI).mono ?_
  rintro e w14 ⟨rfl, hb⟩
  have z_w14 : w13.heap.size ≤ w14.heap.size := hb.size
  have HB_w14 : Hid (Below w.heap.size w w14) := HB_w13.out.trans (hb.mono HB_w13.out.size)
  have HS_w14 : Hid (By.LowI w3.heap.size w14 xs r) := HS_w13.out.below (hb.mono (by omega))
  have HH_w14 : Hid (By.HeldI w14 xg mm) := HH_w13.out.below hb
  clear HB_w13 HS_w13 HH_w13
  clear hb
  clear HK_w13
  go_wp2_with fail
  refine (By.heldI_in HH_w14.out).mono ?_
  rintro e w' ⟨rfl, hw⟩
  have hw' := hw.symm
  clear hw
  subst hw'
  go_wp2
  go_ret
  exact ⟨rfl, HB_w14.out⟩

set_option maxRecDepth 100000 in
theorem lifted (os : Os) (started : os.Started) (H : Type) (enc : TypeId × Value → H) :
    ReturnsInHanded {} Try.checked os 3 .any (Rows.fnExactTableBytesSpec.pre6 enc Try.prog Try.f3 Rows.fnExactTableBytesRow.domain false) (Rows.fnExactTableBytesSpec.post enc Try.prog Try.f3 false true false false) := by
  refine returnsInHanded_of_change (C := Try.checked) own started (by kernel_rfl) Try.func3
    (ChangeSpec.witness6 (enc := enc) (C := Try.checked) false ⟨#[], #[.slice none 0 0], []⟩ 8 (by kernel_rfl) (by kernel_rfl) (by kernel_rfl) (by kernel_rfl)) ?_
  intro W base args ds gs before hval0 hW hcnd _
  have hval : ∀ (j : Nat) t v, Try.f3.params[j]? = some t → args[j]? = some v → Value.okWide Try.prog W .any base t v := hval0
  have hW' := hW
  obtain ⟨p, q, hA0, hV, rfl, hfz, hnd⟩ := hW
  have hA : DataW.TrodAll enc Try.prog W 0 (fun _ => true) true Try.f3.params.toList args.toList ds p := hA0
  rw [Try.params3] at hA hval
  obtain ⟨v0, vs0, d0, ds0, p0, q0, hargs, rfl, rfl, h0, r0⟩ := trodAll_cons hA
  obtain ⟨rfl, rfl, rfl⟩ := trodAll_nil r0
  obtain rfl : args = #[v0] := by cases args; simp_all
  obtain ⟨rfl, rfl⟩ := trodVars_none hV
  have kk0 := h0
  have lt0 : ∀ x ∈ p0, x.block < W.heap.size := by obtain ⟨m, hm⟩ := kk0; exact DataW.trod_lt m _ _ _ hm
  obtain ⟨l0, g0⟩ := open_ems (hval 0 22 v0 rfl rfl) h0
  clear hA0 hval0
  refine (walk v0 l0 W g0).mono fun e W' ⟨he, bel⟩ => ?_
  subst he
  exact ⟨_, rfl, _, _, _, [], _, [], hW', trodAll_mk1 (shut_bool Try.underlying4 _), (trodAll_cons_mk (Below.trod laidOut (by kernel_rfl) (of_decide_eq_true (by kernel_rfl)) kk0 bel lt0) trodAll_mk0), rfl, bel.frame _, fun h => by cases h⟩

theorem over : Rows.fnExactTableBytesRow.holds Try.pinned (OpenSpec.ofChange Rows.fnExactTableBytesSpec) :=
  OpenClaim.holds_of_wide 3 Try.f3 rfl rfl rfl rfl rfl rfl rfl ⟨rfl, rfl, rfl, rfl, rfl⟩ rfl rfl rfl rfl rfl (by kernel_rfl) Try.func3 (by kernel_rfl)
    (of_decide_eq_true (by kernel_rfl)) (by unfold Func.isWrapper; first | (rw [if_pos (by decide +kernel)]; kernel_rfl) | (rw [if_neg (by decide +kernel)]; exact ⟨rfl, rfl⟩))
    (fun os started H enc _ => lifted os started H enc)
end Go.Proofs.Ytacgdmojhhdegaa.LawExactTableBytes
namespace Go.Proofs.Ytacgdmojhhdegaa
theorem tableBytes_holds : Rows.FnExactTableBytesSaid := LawExactTableBytes.over
#print axioms tableBytes_holds
end Go.Proofs.Ytacgdmojhhdegaa
