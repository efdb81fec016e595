/- At every four numbers the program's RandRow answers as the specification's, and its answer owns its memory; no condition. -/
import Derived.Test.YtmpnlmmmopablaaNRowI
import Derived.ProofKit
import Derived.ChangeOld
import Derived.Below
import Derived.OpenShut
namespace Go.Proofs.Ytmpnlmmmopablaa.LawExactRandRow
open Go.ChangeShapes Go.WideShapes Go.ChangeAt Go.RowKit Go.Proofs.Ytmpnlmmmopablaa
theorem own : ownKnob Try.prog.godebug = none := by kernel_rfl
theorem laidOut : laidOutB Try.prog = true := by kernel_rfl

set_option maxRecDepth 100000 in
set_option maxHeartbeats 2000000 in
theorem walk (s l f c : Int) (w : World) (_u : (Lit.int .i64 s).wf = true) (_u1 : (Lit.int .i64 l).wf = true) (_u2 : (Lit.int .i64 f).wf = true) (u3 : (Lit.int .i64 c).wf = true) :
    Calls Try.prog 6 #[.int .i64 s, .int .i64 l, .int .i64 f, .int .i64 c] w fun e w' => e = .returned (.bool true) ∧ Below w.heap.size w w' := by
  have hc0 : -9223372036854775808 ≤ c ∧ c ≤ 9223372036854775807 := by
    have hmin : IntKind.i64.min = -9223372036854775808 := rfl
    have hmax : IntKind.i64.max = 9223372036854775807 := rfl
    simp only [Lit.wf, Bool.and_eq_true, decide_eq_true_eq] at u3
    omega
  obtain ⟨hc1, hc2⟩ := hc0
  have HS := fun W => sRow_any s l f c hc1 hc2 W
  have HI := fun W => iRow_any s l f c W
  have HL : Hid ((rowL s l f c).length ≤ 4611686018427387904) := by have := rowL_length s l f c; show _ ≤ _; omega
  clear _u _u1 _u2 u3 hc1 hc2
  generalize rowL s l f c = r at HS HI HL
  have HS' : Hid (∀ W, _) := HS
  have HI' : Hid (∀ W, _) := HI
  clear HS HI
  go_enter Try.func6, Try.ntmps6
  go_wp2_with (go_at_call 15; refine (HS'.out w).mono ?_; rintro e w1 ⟨v0, rfl, ho, hb⟩; have HO : Hid (OwnI w.heap.size w1 v0 r) := ho; have HB1 : Hid (Below w.heap.size w w1) := hb; clear ho hb)
  go_wp2_with (go_at_call 16; refine (HI'.out w1).mono ?_; rintro e w2 ⟨v1, rfl, ho, hb⟩; have HO2 : Hid (OwnI w1.heap.size w2 v1 r) := ho; have HB2 : Hid (Below w1.heap.size w1 w2) := hb; clear ho hb)
  go_wp2_with (go_at_call 17; refine (eqI_same v1 v0 r w2 HL.out HO2.out.isI (HO.out.isI.below HB2.out)).mono ?_; rintro e w3 ⟨rfl, hb⟩; have HB3 : Hid (Below w2.heap.size w2 w3) := hb; clear hb)
  go_wp2_with (go_at_call 18; refine (markI_own (HO2.out.below HB3.out) HL.out).mono ?_; rintro e w4 ⟨z, hz, rfl, hh, ht⟩; have HH : Hid (HeldI w4 v1 z) := hh; have HT : Hid (Turned w1.heap.size w3 w4) := ht; clear hh ht; have hz0 : ¬ z < 0 := by omega)
  go_wp2_with (go_at_call 19; refine (heldI_in HH.out).mono ?_; rintro e w4' ⟨rfl, hw4⟩; obtain rfl := hw4.symm)
  go_wp2_with (go_at_call 16; refine (HI'.out w4).mono ?_; rintro e w5 ⟨v2, rfl, ho, hb⟩; have HO5 : Hid (OwnI w4.heap.size w5 v2 r) := ho; have HB5 : Hid (Below w4.heap.size w4 w5) := hb; clear ho hb)
  have z1 := HB1.out.size
  have z2 := HB2.out.size
  have z3 := HB3.out.size
  have HB15 : Hid (Below w1.heap.size w1 w5) := by
    have h4 := HT.out.below (by omega)
    have z4 := h4.size
    exact ((HB2.out.trans (HB3.out.mono (by omega))).trans h4).trans (HB5.out.mono (by omega))
  go_wp2_with (go_at_call 17; refine (eqI_same v2 v0 r w5 HL.out HO5.out.isI (HO.out.isI.below HB15.out)).mono ?_; rintro e w6 ⟨rfl, hb⟩; have HB6 : Hid (Below w5.heap.size w5 w6) := hb; clear hb)
  go_wp2_with (go_at_call 19; refine (heldI_in ((HH.out.below HB5.out).below HB6.out)).mono ?_; rintro e w6' ⟨rfl, hw6⟩; obtain rfl := hw6.symm)
  go_ret
  have z5 := HB15.out.size
  exact ⟨rfl, (HB1.out.trans (HB15.out.mono (by omega))).trans (HB6.out.mono (by omega))⟩

set_option maxRecDepth 100000 in
theorem lifted (os : Os) (started : os.Started) (H : Type) (enc : TypeId × Value → H) :
    ReturnsInHanded {} Try.checked os 6 .any (Rows.fnExactRandRowSpec.pre6 enc Try.prog Try.f6 Rows.fnExactRandRowRow.domain false) (Rows.fnExactRandRowSpec.post enc Try.prog Try.f6 false true false false) := by
  refine returnsInHanded_of_change (C := Try.checked) own started (by kernel_rfl) Try.func6
    (ChangeSpec.witness6 (enc := enc) (C := Try.checked) false ⟨#[], #[.int .i64 0, .int .i64 0, .int .i64 0, .int .i64 0], []⟩ 8 (by kernel_rfl) (by kernel_rfl) (by kernel_rfl) (by kernel_rfl)) ?_
  intro W base args ds gs before hval0 hW hcnd _
  have hval : ∀ (j : Nat) t v, Try.f6.params[j]? = some t → args[j]? = some v → Value.okWide Try.prog W .any base t v := hval0
  have hW' := hW
  obtain ⟨p, q, hA0, hV, rfl, hfz, hnd⟩ := hW
  have hA : DataW.TrodAll enc Try.prog W 0 (fun _ => true) true Try.f6.params.toList args.toList ds p := hA0
  rw [Try.params6] at hA hval
  obtain ⟨v0, vs0, d0, ds0, p0, q0, hargs, rfl, rfl, h0, r0⟩ := trodAll_cons hA
  obtain ⟨v1, vs1, d1, ds1, p1, q1, rfl, rfl, rfl, h1, r1⟩ := trodAll_cons r0
  obtain ⟨v2, vs2, d2, ds2, p2, q2, rfl, rfl, rfl, h2, r2⟩ := trodAll_cons r1
  obtain ⟨v3, vs3, d3, ds3, p3, q3, rfl, rfl, rfl, h3, r3⟩ := trodAll_cons r2
  obtain ⟨rfl, rfl, rfl⟩ := trodAll_nil r3
  obtain rfl : args = #[v0, v1, v2, v3] := by cases args; simp_all
  obtain ⟨rfl, rfl⟩ := trodVars_none hV
  have k0 := h0
  have lt0 : ∀ x ∈ p0, x.block < W.heap.size := by obtain ⟨m, hm⟩ := k0; exact DataW.trod_lt m _ _ _ hm
  have k1 := h1
  have lt1 : ∀ x ∈ p1, x.block < W.heap.size := by obtain ⟨m, hm⟩ := k1; exact DataW.trod_lt m _ _ _ hm
  have k2 := h2
  have lt2 : ∀ x ∈ p2, x.block < W.heap.size := by obtain ⟨m, hm⟩ := k2; exact DataW.trod_lt m _ _ _ hm
  have k3 := h3
  have lt3 : ∀ x ∈ p3, x.block < W.heap.size := by obtain ⟨m, hm⟩ := k3; exact DataW.trod_lt m _ _ _ hm
  obtain ⟨x0, rfl, rfl, rfl, u0⟩ := open_int Try.underlying3 (hval 0 3 v0 rfl rfl) h0
  obtain ⟨x1, rfl, rfl, rfl, u1⟩ := open_int Try.underlying3 (hval 1 3 v1 rfl rfl) h1
  obtain ⟨x2, rfl, rfl, rfl, u2⟩ := open_int Try.underlying3 (hval 2 3 v2 rfl rfl) h2
  obtain ⟨x3, rfl, rfl, rfl, u3⟩ := open_int Try.underlying3 (hval 3 3 v3 rfl rfl) h3
  clear hA0 hval0
  refine (walk x0 x1 x2 x3 W u0 u1 u2 u3).mono fun e W' ⟨he, bel⟩ => ?_
  subst he
  exact ⟨_, rfl, _, _, _, [], _, [], hW', trodAll_mk1 (shut_bool Try.underlying4 _), (trodAll_cons_mk (shut_int Try.underlying3 u0) (trodAll_cons_mk (shut_int Try.underlying3 u1) (trodAll_cons_mk (shut_int Try.underlying3 u2) (trodAll_cons_mk (shut_int Try.underlying3 u3) trodAll_mk0)))), rfl, bel.frame _, fun h => by cases h⟩

theorem over : Rows.fnExactRandRowRow.holds Try.pinned (OpenSpec.ofChange Rows.fnExactRandRowSpec) :=
  OpenClaim.holds_of_wide 6 Try.f6 rfl rfl rfl rfl rfl rfl rfl ⟨rfl, rfl, rfl, rfl, rfl⟩ rfl rfl rfl rfl rfl (by kernel_rfl) Try.func6 (by kernel_rfl)
    (of_decide_eq_true (by kernel_rfl)) (by unfold Func.isWrapper; first | (rw [if_pos (by decide +kernel)]; kernel_rfl) | (rw [if_neg (by decide +kernel)]; exact ⟨rfl, rfl⟩))
    (fun os started H enc _ => lifted os started H enc)
end Go.Proofs.Ytmpnlmmmopablaa.LawExactRandRow
namespace Go.Proofs.Ytmpnlmmmopablaa
theorem randRow_holds : Rows.FnExactRandRowSaid := LawExactRandRow.over
#print axioms randRow_holds
end Go.Proofs.Ytmpnlmmmopablaa
