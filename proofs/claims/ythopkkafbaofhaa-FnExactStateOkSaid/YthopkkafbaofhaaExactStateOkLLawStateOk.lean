/- At every state the program's StateOk answers as the specification's, and writes into nothing that it is given; no condition. -/
import Derived.Test.YthopkkafbaofhaaExactStateOkG14
import Derived.Test.YthopkkafbaofhaaExactStateOkG15
namespace Go.Proofs.Ythopkkafbaofhaa.LawExactStateOk
open Go.ChangeShapes Go.WideShapes Go.ChangeAt Go.RowKit Go.Proofs.Ythopkkafbaofhaa

set_option maxRecDepth 100000 in
set_option maxHeartbeats 16000000 in
theorem walk (x : Value) (s : St) (w : World) (hx : IsS w x s) :
    Calls Try.prog 3 #[x] w fun e w' => e = .returned (.bool true) ∧ Below w.heap.size w w' := by
  have HX : Hid (IsS w x s) := hx
  obtain ⟨vr0, rfl, _⟩ := hx
  obtain ⟨W0, hW0⟩ : ∃ W0, w.alloc (.cells #[vr0, .int .i64 s.q, .int .i64 s.d] 24) = W0 := ⟨_, rfl⟩
  have HB_W0 : Hid (Below w.heap.size w W0) := by rw [← hW0]; exact (Below.refl _ w).alloc (Nat.le_refl _) _
  have HP_W0 : Hid (Bk W0 w.heap.size 24 #[vr0, .int .i64 s.q, .int .i64 s.d]) := by rw [← hW0]; exact Bk.new w _ _
  have p0 := HP_W0.out.cell (i := 0) rfl
  have p1 := HP_W0.out.cell (i := 1) rfl
  have p2 := HP_W0.out.cell (i := 2) rfl
  have hP0 : w.heap.size < W0.heap.size := HP_W0.out.lt
  go_enter Try.func3, Try.ntmps3
  go_wp2_with fail
  clear hW0
  clear p0 p1 p2
  refine (szState_any _ s _ _ (by omega) (by omega) (HX.out.below HB_W0.out)).mono ?_
  rintro e w1 ⟨⟨r, rfl, hr⟩, hb⟩
  have z_w1 : W0.heap.size ≤ w1.heap.size := hb.size
  have HB_w1 : Hid (Below w.heap.size w w1) := HB_W0.out.trans (hb.mono HB_W0.out.size)
  have HP_w1 : Hid (Bk w1 w.heap.size 24 #[vr0, .int .i64 s.q, .int .i64 s.d]) := HP_W0.out.below hb
  clear HB_W0 HP_W0
  clear hb
  rcases hr with rfl | ⟨hr0, hr9, hsm⟩
  case inl =>
    go_wp2
    go_ret
    exact ⟨rfl, HB_w1.out⟩
  have hr1 : ¬ (r < 0) := by omega
  have HSM : Hid (s.r.length ≤ 1048576) := hsm
  clear hsm hr0 hr9
  have p0 := HP_w1.out.cell (i := 0) rfl
  have p1 := HP_w1.out.cell (i := 1) rfl
  have p2 := HP_w1.out.cell (i := 2) rfl
  go_wp2_with fail
  clear p0 p1 p2
  refine (toState_any _ s _ HSM.out (HX.out.below HB_w1.out)).mono ?_
  rintro e w2 ⟨y0, rfl, hb, hr⟩
  have z_w2 : w1.heap.size ≤ w2.heap.size := hb.size
  have HB_w2 : Hid (Below w.heap.size w w2) := HB_w1.out.trans (hb.mono HB_w1.out.size)
  have HP_w2 : Hid (Bk w2 w.heap.size 24 #[vr0, .int .i64 s.q, .int .i64 s.d]) := HP_w1.out.below hb
  clear HB_w1 HP_w1
  have HT_w2 : Hid (StF (fun k => w1.heap.size ≤ k ∧ k < w2.heap.size) w2 y0 s) := hr
  clear hb hr
  go_wp2_with fail
  refine (sStOk _ s _ HT_w2.out.isS).mono ?_
  rintro e w3 ⟨rfl, hb⟩
  have z_w3 : w2.heap.size ≤ w3.heap.size := hb.size
  have HB_w3 : Hid (Below w.heap.size w w3) := HB_w2.out.trans (hb.mono HB_w2.out.size)
  have HP_w3 : Hid (Bk w3 w.heap.size 24 #[vr0, .int .i64 s.q, .int .i64 s.d]) := HP_w2.out.below hb
  clear HB_w2 HP_w2 HT_w2
  clear hb
  have p0 := HP_w3.out.cell (i := 0) rfl
  have p1 := HP_w3.out.cell (i := 1) rfl
  have p2 := HP_w3.out.cell (i := 2) rfl
  go_wp2_with fail
  clear p0 p1 p2
  refine (toState_any _ s _ HSM.out (HX.out.below HB_w3.out)).mono ?_
  rintro e w4 ⟨y1, rfl, hb, hr⟩
  have z_w4 : w3.heap.size ≤ w4.heap.size := hb.size
  have HB_w4 : Hid (Below w.heap.size w w4) := HB_w3.out.trans (hb.mono HB_w3.out.size)
  have HP_w4 : Hid (Bk w4 w.heap.size 24 #[vr0, .int .i64 s.q, .int .i64 s.d]) := HP_w3.out.below hb
  clear HB_w3 HP_w3
  have HR_w4 : Hid (StF (fun k => w3.heap.size ≤ k ∧ k < w4.heap.size) w4 y1 s) := hr
  clear hb hr
  obtain ⟨au, cu, rfl⟩ := HR_w4.out.form
  obtain ⟨Vw4, hVw4⟩ : ∃ V, w4.alloc (.cells #[.slice au s.r.length cu, .int .i64 s.q, .int .i64 s.d] 27) = V := ⟨_, rfl⟩
  have BHX0 : Bk Vw4 w4.heap.size 27 #[.slice au s.r.length cu, .int .i64 s.q, .int .i64 s.d] := by rw [← hVw4]; exact Bk.new _ _ _
  have hb : Below w4.heap.size w4 Vw4 := by rw [← hVw4]; exact (Below.refl _ _).alloc (Nat.le_refl _) _
  have y_Vw4 : w4.heap.size < Vw4.heap.size := BHX0.lt
  have z_Vw4 : w4.heap.size ≤ Vw4.heap.size := hb.size
  have HB_Vw4 : Hid (Below w.heap.size w Vw4) := HB_w4.out.trans (hb.mono HB_w4.out.size)
  have HP_Vw4 : Hid (Bk Vw4 w.heap.size 24 #[vr0, .int .i64 s.q, .int .i64 s.d]) := HP_w4.out.below hb
  have HR_Vw4 : Hid (StF (fun k => w3.heap.size ≤ k ∧ k < w4.heap.size) Vw4 (.agg #[.slice au s.r.length cu, .int .i64 s.q, .int .i64 s.d]) s) := HR_w4.out.below hb
  clear HB_w4 HP_w4 HR_w4
  clear hb
  have HX0_Vw4 : Hid (Bk Vw4 w4.heap.size 27 #[.slice au s.r.length cu, .int .i64 s.q, .int .i64 s.d]) := BHX0
  clear BHX0
  have r0 := HX0_Vw4.out.cell (i := 0) rfl
  have r1 := HX0_Vw4.out.cell (i := 1) rfl
  have r2 := HX0_Vw4.out.cell (i := 2) rfl
  go_wp2_with fail
  clear hVw4
  clear r0 r1 r2
  refine (iStOk _ s _ HR_Vw4.out.isS).mono ?_
  rintro e w5 ⟨rfl, hb⟩
  have z_w5 : Vw4.heap.size ≤ w5.heap.size := hb.size
  have HB_w5 : Hid (Below w.heap.size w w5) := HB_Vw4.out.trans (hb.mono HB_Vw4.out.size)
  have HP_w5 : Hid (Bk w5 w.heap.size 24 #[vr0, .int .i64 s.q, .int .i64 s.d]) := HP_Vw4.out.below hb
  have HR_w5 : Hid (StF (fun k => w3.heap.size ≤ k ∧ k < w4.heap.size) w5 (.agg #[.slice au s.r.length cu, .int .i64 s.q, .int .i64 s.d]) s) := HR_Vw4.out.below hb
  have HX0_w5 : Hid (Bk w5 w4.heap.size 27 #[.slice au s.r.length cu, .int .i64 s.q, .int .i64 s.d]) := HX0_Vw4.out.below hb
  clear HB_Vw4 HP_Vw4 HR_Vw4 HX0_Vw4
  clear hb
  have p0 := HP_w5.out.cell (i := 0) rfl
  have p1 := HP_w5.out.cell (i := 1) rfl
  have p2 := HP_w5.out.cell (i := 2) rfl
  have r0 := HX0_w5.out.cell (i := 0) rfl
  have r1 := HX0_w5.out.cell (i := 1) rfl
  have r2 := HX0_w5.out.cell (i := 2) rfl
  go_wp2_with fail
  have hzz : w.heap.size < w5.heap.size := by omega
  have hzy : w4.heap.size < w5.heap.size := by omega
  go_region_held3 (fun W => W.cell? ⟨w.heap.size, 0, none⟩ = some vr0 ∧ W.cell? ⟨w.heap.size, 1, none⟩ = some (.int .i64 s.q) ∧ W.cell? ⟨w.heap.size, 2, none⟩ = some (.int .i64 s.d) ∧ W.cell? ⟨w4.heap.size, 0, none⟩ = some (.slice au s.r.length cu) ∧ W.cell? ⟨w4.heap.size, 1, none⟩ = some (.int .i64 s.q) ∧ W.cell? ⟨w4.heap.size, 2, none⟩ = some (.int .i64 s.d)) ((repeat' apply And.intro) <;> first | (go_keep; done) | (rw [hcA _ _ (by first | omega | (simp; omega))]; simp [*]; done))
    (first | (go_at_call 7; refine (toState_any _ s _ HSM.out (HX.out.below HB_w5.out.drew)).mono ?_; rintro e w6 ⟨y2, rfl, hbw6, hr2⟩; obtain ⟨hcA, hfA⟩ := bcell hbw6; have hzw6 : w5.heap.size ≤ w6.heap.size := hbw6.size) | (go_at_call 9; refine (eqState_same _ _ s _ HSM.out (HR_w5.out.below ((Below.refl _ w5).drew.trans hbw6)).isS hr2.isS).mono ?_; rintro e w7 ⟨rfl, hbw7⟩; obtain ⟨hcA, hfA⟩ := bcell hbw7; have hzw7 : w6.heap.size ≤ w7.heap.size := hbw7.size))
  clear hcA hfA
  have hbc : Below w5.heap.size w5 w7 := ((Below.refl w5.heap.size w5).drew.trans (hbw6.mono (Nat.le_refl _))).trans (hbw7.mono (by omega))
  clear p0 p1 p2
  clear r0 r1 r2
  have z_w7 : w5.heap.size ≤ w7.heap.size := hbc.size
  have HB_w7 : Hid (Below w.heap.size w w7) := HB_w5.out.trans (hbc.mono HB_w5.out.size)
  have HP_w7 : Hid (Bk w7 w.heap.size 24 #[vr0, .int .i64 s.q, .int .i64 s.d]) := HP_w5.out.below hbc
  have HR_w7 : Hid (StF (fun k => w3.heap.size ≤ k ∧ k < w4.heap.size) w7 (.agg #[.slice au s.r.length cu, .int .i64 s.q, .int .i64 s.d]) s) := HR_w5.out.below hbc
  have HX0_w7 : Hid (Bk w7 w4.heap.size 27 #[.slice au s.r.length cu, .int .i64 s.q, .int .i64 s.d]) := HX0_w5.out.below hbc
  clear HB_w5 HP_w5 HR_w5 HX0_w5
  clear hbc hr2 hbw6 hzw6 hbw7 hzw7 hzz hzy
  go_wp2
  go_ret
  exact ⟨rfl, HB_w7.out⟩

set_option maxRecDepth 100000 in
theorem lifted (os : Os) (started : os.Started) (H : Type) (enc : TypeId × Value → H) :
    ReturnsInHanded {} Try.checked os 3 .any (Rows.fnExactStateOkSpec.pre6 enc Try.prog Try.f3 Rows.fnExactStateOkRow.domain false) (Rows.fnExactStateOkSpec.post enc Try.prog Try.f3 false true false false) := by
  refine returnsInHanded_of_change (C := Try.checked) own started (by kernel_rfl) Try.func3
    (ChangeSpec.witness6 (enc := enc) (C := Try.checked) false ⟨#[], #[.agg #[.slice none 0 0, .int .i64 0, .int .i64 0]], []⟩ 8 (by kernel_rfl) (by kernel_rfl) (by kernel_rfl) (by kernel_rfl)) ?_
  intro W base args ds gs before hval0 hW hcnd _
  have hval : ∀ (j : Nat) t v, Try.f3.params[j]? = some t → args[j]? = some v → Value.okWide Try.prog W .any base t v := hval0
  have hW' := hW
  obtain ⟨p, q, hA0, hV, rfl, hfz, hnd⟩ := hW
  have hA : DataW.TrodAll enc Try.prog W 0 (fun _ => true) true Try.f3.params.toList args.toList ds p := hA0
  rw [Try.params3] at hA hval
  obtain ⟨v0, vs0, d0, ds0, p0, q0, hargs, rfl, rfl, h0, r0⟩ := trodAll_cons hA
  obtain ⟨rfl, rfl, rfl⟩ := trodAll_nil r0
  obtain rfl : args = #[v0] := by cases args; simp_all
  obtain ⟨rfl, rfl⟩ := trodVars_none hV
  have kk0 := h0
  have lt0 : ∀ x ∈ p0, x.block < W.heap.size := by obtain ⟨m, hm⟩ := kk0; exact DataW.trod_lt m _ _ _ hm
  obtain ⟨l0, g0⟩ := open_state (hval 0 24 v0 rfl rfl) h0
  clear hA0 hval0
  refine (walk v0 l0 W g0).mono fun e W' ⟨he, bel⟩ => ?_
  subst he
  exact ⟨_, rfl, _, _, _, [], _, [], hW', trodAll_mk1 (shut_bool Try.underlying4 _), (trodAll_cons_mk (Below.trod laidOut (by kernel_rfl) (of_decide_eq_true (by kernel_rfl)) kk0 bel lt0) trodAll_mk0), rfl, bel.frame _, fun h => by cases h⟩

theorem over : Rows.fnExactStateOkRow.holds Try.pinned (OpenSpec.ofChange Rows.fnExactStateOkSpec) :=
  OpenClaim.holds_of_wide 3 Try.f3 rfl rfl rfl rfl rfl rfl rfl ⟨rfl, rfl, rfl, rfl, rfl⟩ rfl rfl rfl rfl rfl (by kernel_rfl) Try.func3 (by kernel_rfl)
    (of_decide_eq_true (by kernel_rfl)) (by unfold Func.isWrapper; first | (rw [if_pos (by decide +kernel)]; kernel_rfl) | (rw [if_neg (by decide +kernel)]; exact ⟨rfl, rfl⟩))
    (fun os started H enc _ => lifted os started H enc)
end Go.Proofs.Ythopkkafbaofhaa.LawExactStateOk
namespace Go.Proofs.Ythopkkafbaofhaa
theorem stateOk_holds : Rows.FnExactStateOkSaid := LawExactStateOk.over
#print axioms stateOk_holds
end Go.Proofs.Ythopkkafbaofhaa
