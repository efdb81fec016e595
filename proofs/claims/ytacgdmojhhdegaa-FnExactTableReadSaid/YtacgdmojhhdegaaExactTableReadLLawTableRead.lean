/- At every row of bytes the program's TableRead answers as the specification's, its answer owns its memory, and it writes into nothing that it is given; no condition. -/
import Derived.Test.YtacgdmojhhdegaaExactTableReadG05
import Derived.Test.YtacgdmojhhdegaaExactTableReadLTrS
import Derived.Test.YtacgdmojhhdegaaExactTableReadG07
namespace Go.Proofs.Ytacgdmojhhdegaa.LawExactTableRead
open Go.ChangeShapes Go.WideShapes Go.ChangeAt Go.RowKit Go.Proofs.Ytacgdmojhhdegaa

set_option maxRecDepth 100000 in
set_option maxHeartbeats 8000000 in
theorem walk (x0 : Value) (l0 : List UInt8) (w : World) (hx0 : By.IsI w x0 l0) :
    Calls Try.prog 4 #[x0] w fun e w' => e = .returned (.bool true) ∧ Below w.heap.size w w' := by
  have HX0 : Hid (By.IsI w x0 l0) := hx0
  obtain ⟨a0, cap0, rfl, p0, q0, _⟩ := hx0
  have m0 : l0.length ≤ 9223372036854775807 := by unfold maxLen at q0; omega
  clear p0 q0
  by_cases hl0 : l0.length ≤ 1048576
  case neg =>
    have hi : (1048576 : Int) < (l0.length : Int) := by omega
    go_enter Try.func4, Try.ntmps4
    go_wp2
    go_ret
    exact ⟨rfl, Below.refl _ _⟩
  have hi0 : ¬ (1048576 : Int) < (l0.length : Int) := by omega
  have hk0 : ¬ ((l0.length : Int) + 1 < 0) := by omega
  have HC : Hid (∃ r b, r.length ≤ 1048576 ∧ (∀ (v0 : Value) (W : World), By.IsI W v0 l0 → Calls Try.prog 14 #[v0] W fun e w' => ∃ u, e = .returned (.tuple #[u, .bool b]) ∧ OwnD w' (fun k => W.heap.size ≤ k ∧ k < w'.heap.size) u (emsD r) ∧ Below W.heap.size W w') ∧ (∀ (v0 : Value) (W : World), By.IsI W v0 l0 → Calls Try.prog 16 #[v0] W fun e w' => ∃ u, e = .returned (.tuple #[u, .bool b]) ∧ OwnD w' (fun k => W.heap.size ≤ k ∧ k < w'.heap.size) u (emsD r) ∧ Below W.heap.size W w')) := ⟨rdR l0, rdB l0, (by unfold rdR; split; rw [readL_length]; omega; simp), fun v0 W h0 => sRead v0 l0 W hl0 h0, fun v0 W h0 => iRead v0 l0 W hl0 h0⟩
  obtain ⟨r, b, hr0, hsp, him⟩ := HC.out
  have HSP : Hid (∀ (v0 : Value) (W : World), By.IsI W v0 l0 → Calls Try.prog 14 #[v0] W fun e w' => ∃ u, e = .returned (.tuple #[u, .bool b]) ∧ OwnD w' (fun k => W.heap.size ≤ k ∧ k < w'.heap.size) u (emsD r) ∧ Below W.heap.size W w') := hsp
  have HIM : Hid (∀ (v0 : Value) (W : World), By.IsI W v0 l0 → Calls Try.prog 16 #[v0] W fun e w' => ∃ u, e = .returned (.tuple #[u, .bool b]) ∧ OwnD w' (fun k => W.heap.size ≤ k ∧ k < w'.heap.size) u (emsD r) ∧ Below W.heap.size W w') := him
  clear HC hsp him
  go_enter Try.func4, Try.ntmps4
  have HB_w : Hid (Below w.heap.size w w) := Below.refl _ _
  go_wp2_with fail
  refine (By.toI_any _ l0 _ hl0 (HX0.out.below HB_w.out)).mono ?_
  rintro e w1 ⟨rfl, hb, hr⟩
  have y_w1 : w.heap.size < w1.heap.size := hr.1
  have HP_w1 : Hid (By.RowI w1 w.heap.size l0) := hr
  have z_w1 : w.heap.size ≤ w1.heap.size := hb.size
  have HB_w1 : Hid (Below w.heap.size w w1) := HB_w.out.trans (hb.mono HB_w.out.size)
  clear HB_w
  clear hb hr
  go_wp2_with fail
  refine (HSP.out _ _ (HP_w1.out.isI (by unfold maxLen; omega))).mono ?_
  rintro e w2 ⟨xs, rfl, ho, hb⟩
  have HS_w2 : Hid (OwnD w2 (fun k => w1.heap.size ≤ k ∧ k < w2.heap.size) xs (emsD r)) := ho
  have z_w2 : w1.heap.size ≤ w2.heap.size := hb.size
  have HB_w2 : Hid (Below w.heap.size w w2) := HB_w1.out.trans (hb.mono HB_w1.out.size)
  clear HB_w1 HP_w1
  clear hb ho HSP
  go_wp2_with fail
  refine (By.toI_any _ l0 _ hl0 (HX0.out.below HB_w2.out)).mono ?_
  rintro e w3 ⟨rfl, hb, hr⟩
  have y_w3 : w2.heap.size < w3.heap.size := hr.1
  have HR_w3 : Hid (By.RowI w3 w2.heap.size l0) := hr
  have z_w3 : w2.heap.size ≤ w3.heap.size := hb.size
  have HB_w3 : Hid (Below w.heap.size w w3) := HB_w2.out.trans (hb.mono HB_w2.out.size)
  have HS_w3 : Hid (OwnD w3 (fun k => w1.heap.size ≤ k ∧ k < w2.heap.size) xs (emsD r)) := HS_w2.out.under hb
  clear HB_w2 HS_w2
  clear hb hr
  go_wp2_with fail
  refine (HIM.out _ _ (HR_w3.out.isI (by unfold maxLen; omega))).mono ?_
  rintro e w4 ⟨xg, rfl, ho, hb⟩
  have HG_w4 : Hid (OwnD w4 (fun k => w3.heap.size ≤ k ∧ k < w4.heap.size) xg (emsD r)) := ho
  have z_w4 : w3.heap.size ≤ w4.heap.size := hb.size
  have HB_w4 : Hid (Below w.heap.size w w4) := HB_w3.out.trans (hb.mono HB_w3.out.size)
  have HS_w4 : Hid (OwnD w4 (fun k => w1.heap.size ≤ k ∧ k < w2.heap.size) xs (emsD r)) := HS_w3.out.under hb
  have HR_w4 : Hid (By.RowI w4 w2.heap.size l0) := HR_w3.out.below hb (by omega)
  clear HB_w3 HS_w3 HR_w3
  clear hb ho
  go_wp2_with fail
  refine (eq_ems _ _ r _ hr0 HG_w4.out.isD HS_w4.out.isD).mono ?_
  rintro e w5 ⟨rfl, hb⟩
  have z_w5 : w4.heap.size ≤ w5.heap.size := hb.size
  have HB_w5 : Hid (Below w.heap.size w w5) := HB_w4.out.trans (hb.mono HB_w4.out.size)
  have HS_w5 : Hid (OwnD w5 (fun k => w1.heap.size ≤ k ∧ k < w2.heap.size) xs (emsD r)) := HS_w4.out.under hb
  have HR_w5 : Hid (By.RowI w5 w2.heap.size l0) := HR_w4.out.below hb (by omega)
  have HG_w5 : Hid (OwnD w5 (fun k => w3.heap.size ≤ k ∧ k < w4.heap.size) xg (emsD r)) := HG_w4.out.under hb
  clear HB_w4 HS_w4 HR_w4 HG_w4
  clear hb
  go_wp2_with fail
  refine (By.toI_any _ l0 _ hl0 (HX0.out.below HB_w5.out)).mono ?_
  rintro e w6 ⟨rfl, hb, hr⟩
  have y_w6 : w5.heap.size < w6.heap.size := hr.1
  have HT_w6 : Hid (By.RowI w6 w5.heap.size l0) := hr
  have z_w6 : w5.heap.size ≤ w6.heap.size := hb.size
  have HB_w6 : Hid (Below w.heap.size w w6) := HB_w5.out.trans (hb.mono HB_w5.out.size)
  have HS_w6 : Hid (OwnD w6 (fun k => w1.heap.size ≤ k ∧ k < w2.heap.size) xs (emsD r)) := HS_w5.out.under hb
  have HR_w6 : Hid (By.RowI w6 w2.heap.size l0) := HR_w5.out.below hb (by omega)
  have HG_w6 : Hid (OwnD w6 (fun k => w3.heap.size ≤ k ∧ k < w4.heap.size) xg (emsD r)) := HG_w5.out.under hb
  clear HB_w5 HS_w5 HR_w5 HG_w5
  clear hb hr
  go_wp2_with fail
  refine (By.eqI_same _ _ l0 _ (by omega) (HR_w6.out.isI (by unfold maxLen; omega)) (HT_w6.out.isI (by unfold maxLen; omega))).mono ?_
  rintro e w7 ⟨rfl, hb⟩
  have z_w7 : w6.heap.size ≤ w7.heap.size := hb.size
  have HB_w7 : Hid (Below w.heap.size w w7) := HB_w6.out.trans (hb.mono HB_w6.out.size)
  have HS_w7 : Hid (OwnD w7 (fun k => w1.heap.size ≤ k ∧ k < w2.heap.size) xs (emsD r)) := HS_w6.out.under hb
  have HR_w7 : Hid (By.RowI w7 w2.heap.size l0) := HR_w6.out.below hb (by omega)
  have HG_w7 : Hid (OwnD w7 (fun k => w3.heap.size ≤ k ∧ k < w4.heap.size) xg (emsD r)) := HG_w6.out.under hb
  clear HB_w6 HS_w6 HR_w6 HG_w6 HT_w6
  clear hb
  go_wp2_with fail
  refine (By.markI_any w2.heap.size l0.length l0.length _ (by omega) HR_w7.out.mark).mono ?_
  rintro e w8 ⟨rfl, _, hg⟩
  have z_w8 : w7.heap.size ≤ w8.heap.size := hg.size
  have hgt : Turns (fun k => k = w2.heap.size) w7 w8 := (grown_turns hg).mono (fun k e => by cases e; rfl)
  have HB_w8 : Hid (Below w.heap.size w w8) := HB_w7.out.trans (hgt.to_below (fun k e => by omega) (by omega))
  have HS_w8 : Hid (OwnD w8 (fun k => w1.heap.size ≤ k ∧ k < w2.heap.size) xs (emsD r)) := HS_w7.out.turns hgt (fun k h e => by omega)
  have HG_w8 : Hid (OwnD w8 (fun k => w3.heap.size ≤ k ∧ k < w4.heap.size) xg (emsD r)) := HG_w7.out.turns hgt (fun k h e => by omega)
  clear hg hgt HB_w7 HS_w7 HG_w7 HR_w7
  go_wp2_with fail
  refine (eq_ems _ _ r _ hr0 HG_w8.out.isD HS_w8.out.isD).mono ?_
  rintro e w9 ⟨rfl, hb⟩
  have z_w9 : w8.heap.size ≤ w9.heap.size := hb.size
  have HB_w9 : Hid (Below w.heap.size w w9) := HB_w8.out.trans (hb.mono HB_w8.out.size)
  have HS_w9 : Hid (OwnD w9 (fun k => w1.heap.size ≤ k ∧ k < w2.heap.size) xs (emsD r)) := HS_w8.out.under hb
  have HG_w9 : Hid (OwnD w9 (fun k => w3.heap.size ≤ k ∧ k < w4.heap.size) xg (emsD r)) := HG_w8.out.under hb
  clear HB_w8 HS_w8 HG_w8
  clear hb
  go_wp2_with fail
  refine (mark_ems 1 (by omega) (by omega) (by omega) HG_w9.out).mono ?_
  rintro e w10 ⟨rfl, hh, ht⟩
  have z_w10 : w9.heap.size ≤ w10.heap.size := ht.size
  have HB_w10 : Hid (Below w.heap.size w w10) := HB_w9.out.trans (ht.to_below (fun k e => by omega) (by omega))
  have HS_w10 : Hid (OwnD w10 (fun k => w1.heap.size ≤ k ∧ k < w2.heap.size) xs (emsD r)) := HS_w9.out.turns ht (fun k h e => by omega)
  have HH_w10 : Hid (OwnD w10 (fun k => w3.heap.size ≤ k ∧ k < w4.heap.size) xg ((emsD r).mark 1)) := hh
  obtain ⟨mm, hmm⟩ : ∃ mm : Int, (1 : Int) + (((emsD r).cnt : Nat) : Int) = mm := ⟨_, rfl⟩
  have hmn : ¬ (mm < 0) := by omega
  have HMM : Hid ((1 : Int) + (((emsD r).cnt : Nat) : Int) = mm) := hmm
  rw [hmm]
  clear hmm hh ht HB_w9 HS_w9 HG_w9
  go_wp2_with fail
  refine (held_ems 1 (by omega) (by omega) (by omega) HH_w10.out).mono ?_
  rintro e w11 ⟨rfl, hb⟩
  rw [HMM.out]
  have z_w11 : w10.heap.size ≤ w11.heap.size := hb.size
  have HB_w11 : Hid (Below w.heap.size w w11) := HB_w10.out.trans (hb.mono HB_w10.out.size)
  have HS_w11 : Hid (OwnD w11 (fun k => w1.heap.size ≤ k ∧ k < w2.heap.size) xs (emsD r)) := HS_w10.out.under hb
  have HH_w11 : Hid (OwnD w11 (fun k => w3.heap.size ≤ k ∧ k < w4.heap.size) xg ((emsD r).mark 1)) := HH_w10.out.under hb
  clear HB_w10 HS_w10 HH_w10
  clear hb
  go_wp2_with fail
  refine (By.toI_any _ l0 _ hl0 (HX0.out.below HB_w11.out)).mono ?_
  rintro e w12 ⟨rfl, hb, hr⟩
  have y_w12 : w11.heap.size < w12.heap.size := hr.1
  have HR_w12 : Hid (By.RowI w12 w11.heap.size l0) := hr
  have z_w12 : w11.heap.size ≤ w12.heap.size := hb.size
  have HB_w12 : Hid (Below w.heap.size w w12) := HB_w11.out.trans (hb.mono HB_w11.out.size)
  have HS_w12 : Hid (OwnD w12 (fun k => w1.heap.size ≤ k ∧ k < w2.heap.size) xs (emsD r)) := HS_w11.out.under hb
  have HH_w12 : Hid (OwnD w12 (fun k => w3.heap.size ≤ k ∧ k < w4.heap.size) xg ((emsD r).mark 1)) := HH_w11.out.under hb
  clear HB_w11 HS_w11 HH_w11
  clear hb hr
  go_wp2_with fail
  refine (HIM.out _ _ (HR_w12.out.isI (by unfold maxLen; omega))).mono ?_
  rintro e w13 ⟨xh, rfl, ho, hb⟩
  have HK_w13 : Hid (IsD w13 xh (emsD r)) := ho.isD
  have z_w13 : w12.heap.size ≤ w13.heap.size := hb.size
  have HB_w13 : Hid (Below w.heap.size w w13) := HB_w12.out.trans (hb.mono HB_w12.out.size)
  have HS_w13 : Hid (OwnD w13 (fun k => w1.heap.size ≤ k ∧ k < w2.heap.size) xs (emsD r)) := HS_w12.out.under hb
  have HH_w13 : Hid (OwnD w13 (fun k => w3.heap.size ≤ k ∧ k < w4.heap.size) xg ((emsD r).mark 1)) := HH_w12.out.under hb
  clear HB_w12 HS_w12 HH_w12 HR_w12
  clear hb ho HIM
  go_wp2_with fail
  refine (eq_ems _ _ r _ hr0 HK_w13.out HS_w13.out.isD).mono ?_
  rintro e w14 ⟨rfl, hb⟩
  have z_w14 : w13.heap.size ≤ w14.heap.size := hb.size
  have HB_w14 : Hid (Below w.heap.size w w14) := HB_w13.out.trans (hb.mono HB_w13.out.size)
  have HS_w14 : Hid (OwnD w14 (fun k => w1.heap.size ≤ k ∧ k < w2.heap.size) xs (emsD r)) := HS_w13.out.under hb
  have HH_w14 : Hid (OwnD w14 (fun k => w3.heap.size ≤ k ∧ k < w4.heap.size) xg ((emsD r).mark 1)) := HH_w13.out.under hb
  clear HB_w13 HS_w13 HH_w13
  clear hb
  clear HK_w13
  go_wp2_with fail
  refine (held_ems 1 (by omega) (by omega) (by omega) HH_w14.out).mono ?_
  rintro e w15 ⟨rfl, hb⟩
  rw [HMM.out]
  have z_w15 : w14.heap.size ≤ w15.heap.size := hb.size
  have HB_w15 : Hid (Below w.heap.size w w15) := HB_w14.out.trans (hb.mono HB_w14.out.size)
  have HS_w15 : Hid (OwnD w15 (fun k => w1.heap.size ≤ k ∧ k < w2.heap.size) xs (emsD r)) := HS_w14.out.under hb
  have HH_w15 : Hid (OwnD w15 (fun k => w3.heap.size ≤ k ∧ k < w4.heap.size) xg ((emsD r).mark 1)) := HH_w14.out.under hb
  clear HB_w14 HS_w14 HH_w14
  clear hb
  go_wp2
  go_ret
  exact ⟨rfl, HB_w15.out⟩

set_option maxRecDepth 100000 in
theorem lifted (os : Os) (started : os.Started) (H : Type) (enc : TypeId × Value → H) :
    ReturnsInHanded {} Try.checked os 4 .any (Rows.fnExactTableReadSpec.pre6 enc Try.prog Try.f4 Rows.fnExactTableReadRow.domain false) (Rows.fnExactTableReadSpec.post enc Try.prog Try.f4 false true false false) := by
  refine returnsInHanded_of_change (C := Try.checked) own started (by kernel_rfl) Try.func4
    (ChangeSpec.witness6 (enc := enc) (C := Try.checked) false ⟨#[], #[.slice none 0 0], []⟩ 8 (by kernel_rfl) (by kernel_rfl) (by kernel_rfl) (by kernel_rfl)) ?_
  intro W base args ds gs before hval0 hW hcnd _
  have hval : ∀ (j : Nat) t v, Try.f4.params[j]? = some t → args[j]? = some v → Value.okWide Try.prog W .any base t v := hval0
  have hW' := hW
  obtain ⟨p, q, hA0, hV, rfl, hfz, hnd⟩ := hW
  have hA : DataW.TrodAll enc Try.prog W 0 (fun _ => true) true Try.f4.params.toList args.toList ds p := hA0
  rw [Try.params4] at hA hval
  obtain ⟨v0, vs0, d0, ds0, p0, q0, hargs, rfl, rfl, h0, r0⟩ := trodAll_cons hA
  obtain ⟨rfl, rfl, rfl⟩ := trodAll_nil r0
  obtain rfl : args = #[v0] := by cases args; simp_all
  obtain ⟨rfl, rfl⟩ := trodVars_none hV
  have kk0 := h0
  have lt0 : ∀ x ∈ p0, x.block < W.heap.size := by obtain ⟨m, hm⟩ := kk0; exact DataW.trod_lt m _ _ _ hm
  obtain ⟨l0, g0⟩ := By.open_bytes' (hval 0 24 v0 rfl rfl) h0
  clear hA0 hval0
  refine (walk v0 l0 W g0).mono fun e W' ⟨he, bel⟩ => ?_
  subst he
  exact ⟨_, rfl, _, _, _, [], _, [], hW', trodAll_mk1 (shut_bool Try.underlying4 _), (trodAll_cons_mk (Below.trod laidOut (by kernel_rfl) (of_decide_eq_true (by kernel_rfl)) kk0 bel lt0) trodAll_mk0), rfl, bel.frame _, fun h => by cases h⟩

theorem over : Rows.fnExactTableReadRow.holds Try.pinned (OpenSpec.ofChange Rows.fnExactTableReadSpec) :=
  OpenClaim.holds_of_wide 4 Try.f4 rfl rfl rfl rfl rfl rfl rfl ⟨rfl, rfl, rfl, rfl, rfl⟩ rfl rfl rfl rfl rfl (by kernel_rfl) Try.func4 (by kernel_rfl)
    (of_decide_eq_true (by kernel_rfl)) (by unfold Func.isWrapper; first | (rw [if_pos (by decide +kernel)]; kernel_rfl) | (rw [if_neg (by decide +kernel)]; exact ⟨rfl, rfl⟩))
    (fun os started H enc _ => lifted os started H enc)
end Go.Proofs.Ytacgdmojhhdegaa.LawExactTableRead
namespace Go.Proofs.Ytacgdmojhhdegaa
theorem tableRead_holds : Rows.FnExactTableReadSaid := LawExactTableRead.over
#print axioms tableRead_holds
end Go.Proofs.Ytacgdmojhhdegaa
