/- At every two events the program's EventCmp answers as the specification's, and both read behind the call as they read before; no condition. -/
import Derived.Test.YtcnlkccmibnhmaaCmpS
import Derived.Test.YtcnlkccmibnhmaaCmpI
import Derived.Test.YtcnlkccmibnhmaaOpen
import Derived.Deep.RegionHeld3
namespace Go.Proofs.Ytcnlkccmibnhmaa.LawEventCmp
open Go.ChangeShapes Go.WideShapes Go.ChangeAt Go.RowKit Go.Proofs.Ytcnlkccmibnhmaa

set_option maxHeartbeats 4000000 in
theorem walk (t s q d k v g t' s' q' d' k' v' g' : Int) (w : World) :
    Calls Try.prog 4 #[.agg #[.int .i64 t, .int .i64 s, .int .i64 q, .int .i64 d, .int .i64 k, .int .i64 v, .int .i64 g], .agg #[.int .i64 t', .int .i64 s', .int .i64 q', .int .i64 d', .int .i64 k', .int .i64 v', .int .i64 g']] w fun e w' => e = .returned (.bool true) ∧ Below w.heap.size w w' := by
  go_enter Try.func4, Try.ntmps4
  go_wp2_with fail
  go_region_held3 (fun W => w.heap.size < W.heap.size ∧ w.heap.size + 1 < W.heap.size ∧ W.cell? ⟨w.heap.size, 0, none⟩ = some (.int .i64 t) ∧ W.cell? ⟨w.heap.size, 1, none⟩ = some (.int .i64 s) ∧ W.cell? ⟨w.heap.size, 2, none⟩ = some (.int .i64 q) ∧ W.cell? ⟨w.heap.size, 3, none⟩ = some (.int .i64 d) ∧ W.cell? ⟨w.heap.size, 4, none⟩ = some (.int .i64 k) ∧ W.cell? ⟨w.heap.size, 5, none⟩ = some (.int .i64 v) ∧ W.cell? ⟨w.heap.size, 6, none⟩ = some (.int .i64 g) ∧ W.cell? ⟨w.heap.size + 1, 0, none⟩ = some (.int .i64 t') ∧ W.cell? ⟨w.heap.size + 1, 1, none⟩ = some (.int .i64 s') ∧ W.cell? ⟨w.heap.size + 1, 2, none⟩ = some (.int .i64 q') ∧ W.cell? ⟨w.heap.size + 1, 3, none⟩ = some (.int .i64 d') ∧ W.cell? ⟨w.heap.size + 1, 4, none⟩ = some (.int .i64 k') ∧ W.cell? ⟨w.heap.size + 1, 5, none⟩ = some (.int .i64 v') ∧ W.cell? ⟨w.heap.size + 1, 6, none⟩ = some (.int .i64 g')) ((repeat' apply And.intro) <;> first | (go_keep; done) | (simp; omega) | omega | (rw [hcA _ _ (by first | omega | (simp; omega))]; simp [*]; done) | (rw [hcB _ _ (by first | omega | (simp; omega))]; simp [*]; done) | (rw [hcC _ _ (by first | omega | (simp; omega))]; simp [*]; done))
    (first
      | (go_at_call_of 10 t'; refine (toEvent_any _ _ _ _ _ _ _ _).mono ?_; rintro e wB ⟨rfl, hbB⟩; obtain ⟨hcB, hfB⟩ := bcell hbB; have hzB := hbB.size)
      | (go_at_call_of 10 t; refine (toEvent_any _ _ _ _ _ _ _ _).mono ?_; rintro e wA ⟨rfl, hbA⟩; obtain ⟨hcA, hfA⟩ := bcell hbA; have hzA := hbA.size)
      | (go_at_call 12; refine (sCmp_any _ _ _ _ _ _ _ _ _ _ _ _ _ _ _).mono ?_; rintro e wC ⟨rfl, hbC⟩; obtain ⟨hcC, hfC⟩ := bcell hbC; have hzC := hbC.size))
  have hBC : Below w.heap.size w wC := (((((Below.refl _ _).alloc (Nat.le_refl _) _).alloc (by simp) _).drew.trans (hbA.mono (by simp; omega))).trans (hbB.mono (by simp at hzA; omega))).trans (hbC.mono (by simp at hzA; omega))
  clear hcA hfA hcB hfB hcC hfC hbA hbB hbC hzA hzB hzC
  go_wp2_with fail
  go_region_held3 (fun W => w.heap.size < W.heap.size ∧ w.heap.size + 1 < W.heap.size ∧ W.cell? ⟨w.heap.size, 0, none⟩ = some (.int .i64 t) ∧ W.cell? ⟨w.heap.size, 1, none⟩ = some (.int .i64 s) ∧ W.cell? ⟨w.heap.size, 2, none⟩ = some (.int .i64 q) ∧ W.cell? ⟨w.heap.size, 3, none⟩ = some (.int .i64 d) ∧ W.cell? ⟨w.heap.size, 4, none⟩ = some (.int .i64 k) ∧ W.cell? ⟨w.heap.size, 5, none⟩ = some (.int .i64 v) ∧ W.cell? ⟨w.heap.size, 6, none⟩ = some (.int .i64 g) ∧ W.cell? ⟨w.heap.size + 1, 0, none⟩ = some (.int .i64 t') ∧ W.cell? ⟨w.heap.size + 1, 1, none⟩ = some (.int .i64 s') ∧ W.cell? ⟨w.heap.size + 1, 2, none⟩ = some (.int .i64 q') ∧ W.cell? ⟨w.heap.size + 1, 3, none⟩ = some (.int .i64 d') ∧ W.cell? ⟨w.heap.size + 1, 4, none⟩ = some (.int .i64 k') ∧ W.cell? ⟨w.heap.size + 1, 5, none⟩ = some (.int .i64 v') ∧ W.cell? ⟨w.heap.size + 1, 6, none⟩ = some (.int .i64 g')) ((repeat' apply And.intro) <;> first | (go_keep; done) | (simp; omega) | omega | (rw [hcD _ _ (by first | omega | (simp; omega))]; simp [*]; done) | (rw [hcE _ _ (by first | omega | (simp; omega))]; simp [*]; done) | (rw [hcG _ _ (by first | omega | (simp; omega))]; simp [*]; done))
    (first
      | (go_at_call_of 10 t'; refine (toEvent_any _ _ _ _ _ _ _ _).mono ?_; rintro e wE ⟨rfl, hbE⟩; obtain ⟨hcE, hfE⟩ := bcell hbE; have hzE := hbE.size)
      | (go_at_call_of 10 t; refine (toEvent_any _ _ _ _ _ _ _ _).mono ?_; rintro e wD ⟨rfl, hbD⟩; obtain ⟨hcD, hfD⟩ := bcell hbD; have hzD := hbD.size)
      | (go_at_call 13; refine (iCmp_any _ _ _ _ _ _ _ _ _ _ _ _ _ _ _).mono ?_; rintro e wG ⟨rfl, hbG⟩; obtain ⟨hcG, hfG⟩ := bcell hbG; have hzG := hbG.size))
  have hBG : Below w.heap.size w wG := ((hBC.drew.trans (hbD.mono (by simpa using hBC.size))).trans (hbE.mono (by have := hBC.size; simp at hzD; omega))).trans (hbG.mono (by have := hBC.size; simp at hzD; omega))
  clear hcD hfD hcE hfE hcG hfG hbD hbE hbG hzD hzE hzG hBC
  generalize ecmp t s q d k v g t' s' q' d' k' v' g' = z
  go_wp2
  go_ret
  exact ⟨rfl, hBG⟩

set_option maxRecDepth 100000 in
theorem lifted (os : Os) (started : os.Started) (H : Type) (enc : TypeId × Value → H) :
    ReturnsInHanded {} Try.checked os 4 .any (Rows.fnExactEventCmpSpec.pre6 enc Try.prog Try.f4 Rows.fnExactEventCmpRow.domain false) (Rows.fnExactEventCmpSpec.post enc Try.prog Try.f4 false true false false) := by
  refine returnsInHanded_of_change (C := Try.checked) own started (by kernel_rfl) Try.func4
    (ChangeSpec.witness6 (enc := enc) (C := Try.checked) false ⟨#[], #[.agg #[.int .i64 0, .int .i64 0, .int .i64 0, .int .i64 0, .int .i64 0, .int .i64 0, .int .i64 0], .agg #[.int .i64 0, .int .i64 0, .int .i64 0, .int .i64 0, .int .i64 0, .int .i64 0, .int .i64 0]], []⟩ 8 (by kernel_rfl) (by kernel_rfl) (by kernel_rfl) (by kernel_rfl)) ?_
  intro W base args ds gs before hval0 hW hcnd _
  have hval : ∀ (j : Nat) t v, Try.f4.params[j]? = some t → args[j]? = some v → Value.okWide Try.prog W .any base t v := hval0
  have hW' := hW
  obtain ⟨p, q, hA0, hV, rfl, hfz, hnd⟩ := hW
  have hA : DataW.TrodAll enc Try.prog W 0 (fun _ => true) true Try.f4.params.toList args.toList ds p := hA0
  rw [Try.params4] at hA hval
  obtain ⟨v0, vs0, d0, ds0, p0, q0, hargs, rfl, rfl, h0, r0⟩ := trodAll_cons hA
  obtain ⟨v1, vs1, d1, ds1, p1, q1, rfl, rfl, rfl, h1, r1⟩ := trodAll_cons r0
  obtain ⟨rfl, rfl, rfl⟩ := trodAll_nil r1
  obtain rfl : args = #[v0, v1] := by cases args; simp_all
  obtain ⟨rfl, rfl⟩ := trodVars_none hV
  have k0 := h0
  have lt0 : ∀ x ∈ p0, x.block < W.heap.size := by obtain ⟨m, hm⟩ := k0; exact DataW.trod_lt m _ _ _ hm
  have k1 := h1
  have lt1 : ∀ x ∈ p1, x.block < W.heap.size := by obtain ⟨m, hm⟩ := k1; exact DataW.trod_lt m _ _ _ hm
  obtain ⟨x00, x01, x02, x03, x04, x05, x06, rfl, u00, u01, u02, u03, u04, u05, u06⟩ := open_ev (hval 0 23 v0 rfl rfl) h0
  obtain ⟨x10, x11, x12, x13, x14, x15, x16, rfl, u10, u11, u12, u13, u14, u15, u16⟩ := open_ev (hval 1 23 v1 rfl rfl) h1
  clear hA0 hval0
  refine (walk x00 x01 x02 x03 x04 x05 x06 x10 x11 x12 x13 x14 x15 x16 W).mono fun e W' ⟨he, bel⟩ => ?_
  subst he
  exact ⟨_, rfl, _, _, _, [], _, [], hW', trodAll_mk1 (shut_bool Try.underlying4 _), (trodAll_cons_mk (Below.trod laidOut (by kernel_rfl) (of_decide_eq_true (by kernel_rfl)) k0 bel lt0) (trodAll_cons_mk (Below.trod laidOut (by kernel_rfl) (of_decide_eq_true (by kernel_rfl)) k1 bel lt1) trodAll_mk0)), rfl, bel.frame _, fun h => by cases h⟩

theorem over : Rows.fnExactEventCmpRow.holds Try.pinned (OpenSpec.ofChange Rows.fnExactEventCmpSpec) :=
  OpenClaim.holds_of_wide 4 Try.f4 rfl rfl rfl rfl rfl rfl rfl ⟨rfl, rfl, rfl, rfl, rfl⟩ rfl rfl rfl rfl rfl (by kernel_rfl) Try.func4 (by kernel_rfl)
    (of_decide_eq_true (by kernel_rfl)) (by unfold Func.isWrapper; first | (rw [if_pos (by decide +kernel)]; kernel_rfl) | (rw [if_neg (by decide +kernel)]; exact ⟨rfl, rfl⟩))
    (fun os started H enc _ => lifted os started H enc)
end Go.Proofs.Ytcnlkccmibnhmaa.LawEventCmp
namespace Go.Proofs.Ytcnlkccmibnhmaa
theorem eventCmp_holds : Rows.FnExactEventCmpSaid := LawEventCmp.over
#print axioms eventCmp_holds
end Go.Proofs.Ytcnlkccmibnhmaa
