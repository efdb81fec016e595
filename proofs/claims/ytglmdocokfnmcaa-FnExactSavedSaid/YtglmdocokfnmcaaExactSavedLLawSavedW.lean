/- The walk of FnExactSaved. -/
import Derived.Test.YtglmdocokfnmcaaExactSavedG24
import Derived.Test.YtglmdocokfnmcaaExactSavedG27
import Derived.Deep.RegionHeld3
namespace Go.Proofs.Ytglmdocokfnmcaa.LawExactSaved
open Go.ChangeShapes Go.WideShapes Go.ChangeAt Go.RowKit Go.Proofs.Ytglmdocokfnmcaa

set_option maxRecDepth 100000 in
set_option maxHeartbeats 16000000 in
theorem walk (x : Value) (p : Pa) (w : World) (hx : IsPart w x p) :
    Calls Try.prog 5 #[x] w fun e w' => e = .returned (.bool true) ∧ Below w.heap.size w w' := by
  have HX : Hid (IsPart w x p) := hx
  obtain ⟨v1, v4, v5, v6, rfl, _⟩ := hx
  obtain ⟨W0, hW0⟩ : ∃ W0, w.alloc (.cells #[.int .i64 p.n, v1, .int .i64 p.st.q, .int .i64 p.st.d, v4, v5, v6] 28) = W0 := ⟨_, rfl⟩
  have HB_W0 : Hid (Below w.heap.size w W0) := by rw [← hW0]; exact (Below.refl _ w).alloc (Nat.le_refl _) _
  have HP_W0 : Hid (Bk W0 w.heap.size 28 #[.int .i64 p.n, v1, .int .i64 p.st.q, .int .i64 p.st.d, v4, v5, v6]) := by rw [← hW0]; exact Bk.new w _ _
  have p0 := HP_W0.out.cell (i := 0) rfl
  have p1 := HP_W0.out.cell (i := 1) rfl
  have p2 := HP_W0.out.cell (i := 2) rfl
  have p3 := HP_W0.out.cell (i := 3) rfl
  have p4 := HP_W0.out.cell (i := 4) rfl
  have p5 := HP_W0.out.cell (i := 5) rfl
  have p6 := HP_W0.out.cell (i := 6) rfl
  have hP0 : w.heap.size < W0.heap.size := HP_W0.out.lt
  go_enter Try.func5, Try.ntmps5
  go_wp2_with fail
  clear hW0 p0 p1 p2 p3 p4 p5 p6
  refine (szPart_any _ p _ _ (by omega) (by omega) (HX.out.under HB_W0.out)).mono ?_
  rintro e w1 ⟨⟨r, rfl, hr⟩, hb⟩
  have z_w1 : W0.heap.size ≤ w1.heap.size := hb.size
  have HB_w1 : Hid (Below w.heap.size w w1) := HB_W0.out.trans (hb.mono HB_W0.out.size)
  have HP_w1 : Hid (Bk w1 w.heap.size 28 #[.int .i64 p.n, v1, .int .i64 p.st.q, .int .i64 p.st.d, v4, v5, v6]) := HP_W0.out.below hb
  clear HB_W0 HP_W0 hb
  rcases hr with rfl | ⟨hr0, hr9⟩
  case inl =>
    go_wp2
    go_ret
    exact ⟨rfl, HB_w1.out⟩
  have hr1 : ¬ (r < 0) := by omega
  have HSM : Hid (p.wt ≤ 1048576) := by show p.wt ≤ 1048576; omega
  clear hr0 hr9
  have p0 := HP_w1.out.cell (i := 0) rfl
  have p1 := HP_w1.out.cell (i := 1) rfl
  have p2 := HP_w1.out.cell (i := 2) rfl
  have p3 := HP_w1.out.cell (i := 3) rfl
  have p4 := HP_w1.out.cell (i := 4) rfl
  have p5 := HP_w1.out.cell (i := 5) rfl
  have p6 := HP_w1.out.cell (i := 6) rfl
  go_wp2_with fail
  clear p0 p1 p2 p3 p4 p5 p6
  refine (toPart_any _ p _ HSM.out (HX.out.under HB_w1.out)).mono ?_
  rintro e w2 ⟨y0, rfl, hb, hr⟩
  have z_w2 : w1.heap.size ≤ w2.heap.size := hb.size
  have HB_w2 : Hid (Below w.heap.size w w2) := HB_w1.out.trans (hb.mono HB_w1.out.size)
  have HP_w2 : Hid (Bk w2 w.heap.size 28 #[.int .i64 p.n, v1, .int .i64 p.st.q, .int .i64 p.st.d, v4, v5, v6]) := HP_w1.out.below hb
  have HT_w2 : Hid (PartF (fun k => w1.heap.size ≤ k ∧ k < w2.heap.size) w2 y0 p) := hr
  clear HB_w1 HP_w1 hb hr
  go_wp2_with fail
  refine (sSaved _ p _ HSM.out HT_w2.out.is).mono ?_
  rintro e w3 ⟨rfl, hb⟩
  have z_w3 : w2.heap.size ≤ w3.heap.size := hb.size
  have HB_w3 : Hid (Below w.heap.size w w3) := HB_w2.out.trans (hb.mono HB_w2.out.size)
  have HP_w3 : Hid (Bk w3 w.heap.size 28 #[.int .i64 p.n, v1, .int .i64 p.st.q, .int .i64 p.st.d, v4, v5, v6]) := HP_w2.out.below hb
  clear HB_w2 HP_w2 HT_w2 hb
  have p0 := HP_w3.out.cell (i := 0) rfl
  have p1 := HP_w3.out.cell (i := 1) rfl
  have p2 := HP_w3.out.cell (i := 2) rfl
  have p3 := HP_w3.out.cell (i := 3) rfl
  have p4 := HP_w3.out.cell (i := 4) rfl
  have p5 := HP_w3.out.cell (i := 5) rfl
  have p6 := HP_w3.out.cell (i := 6) rfl
  go_wp2_with fail
  clear p0 p1 p2 p3 p4 p5 p6
  refine (toPart_any _ p _ HSM.out (HX.out.under HB_w3.out)).mono ?_
  rintro e w4 ⟨y1, rfl, hb, hr⟩
  have z_w4 : w3.heap.size ≤ w4.heap.size := hb.size
  have HB_w4 : Hid (Below w.heap.size w w4) := HB_w3.out.trans (hb.mono HB_w3.out.size)
  have HP_w4 : Hid (Bk w4 w.heap.size 28 #[.int .i64 p.n, v1, .int .i64 p.st.q, .int .i64 p.st.d, v4, v5, v6]) := HP_w3.out.below hb
  have HR_w4 : Hid (PartF (fun k => w3.heap.size ≤ k ∧ k < w4.heap.size) w4 y1 p) := hr
  clear HB_w3 HP_w3 hb hr
  obtain ⟨a1, c1, a4, c4, a5, c5, a6, c6, rfl⟩ := HR_w4.out.form
  obtain ⟨Vw4, hVw4⟩ : ∃ V, w4.alloc (.cells #[.int .i64 p.n, .slice a1 p.st.r.length c1, .int .i64 p.st.q, .int .i64 p.st.d, .slice a4 p.p.length c4, .slice a5 p.t.length c5, .slice a6 p.a.length c6] 35) = V := ⟨_, rfl⟩
  have BHX0 : Bk Vw4 w4.heap.size 35 #[.int .i64 p.n, .slice a1 p.st.r.length c1, .int .i64 p.st.q, .int .i64 p.st.d, .slice a4 p.p.length c4, .slice a5 p.t.length c5, .slice a6 p.a.length c6] := by rw [← hVw4]; exact Bk.new _ _ _
  have hb : Below w4.heap.size w4 Vw4 := by rw [← hVw4]; exact (Below.refl _ _).alloc (Nat.le_refl _) _
  have y_Vw4 : w4.heap.size < Vw4.heap.size := BHX0.lt
  have z_Vw4 : w4.heap.size ≤ Vw4.heap.size := hb.size
  have HB_Vw4 : Hid (Below w.heap.size w Vw4) := HB_w4.out.trans (hb.mono HB_w4.out.size)
  have HP_Vw4 : Hid (Bk Vw4 w.heap.size 28 #[.int .i64 p.n, v1, .int .i64 p.st.q, .int .i64 p.st.d, v4, v5, v6]) := HP_w4.out.below hb
  have HR_Vw4 : Hid (PartF (fun k => w3.heap.size ≤ k ∧ k < w4.heap.size) Vw4 (.agg #[.int .i64 p.n, .slice a1 p.st.r.length c1, .int .i64 p.st.q, .int .i64 p.st.d, .slice a4 p.p.length c4, .slice a5 p.t.length c5, .slice a6 p.a.length c6]) p) := HR_w4.out.under hb
  have HX0_Vw4 : Hid (Bk Vw4 w4.heap.size 35 #[.int .i64 p.n, .slice a1 p.st.r.length c1, .int .i64 p.st.q, .int .i64 p.st.d, .slice a4 p.p.length c4, .slice a5 p.t.length c5, .slice a6 p.a.length c6]) := BHX0
  clear HB_w4 HP_w4 HR_w4 hb BHX0
  have r0 := HX0_Vw4.out.cell (i := 0) rfl
  have r1 := HX0_Vw4.out.cell (i := 1) rfl
  have r2 := HX0_Vw4.out.cell (i := 2) rfl
  have r3 := HX0_Vw4.out.cell (i := 3) rfl
  have r4 := HX0_Vw4.out.cell (i := 4) rfl
  have r5 := HX0_Vw4.out.cell (i := 5) rfl
  have r6 := HX0_Vw4.out.cell (i := 6) rfl
  go_wp2_with fail
  clear hVw4 r0 r1 r2 r3 r4 r5 r6
  refine (iSaved _ p _ HSM.out HR_Vw4.out.is).mono ?_
  rintro e w5 ⟨rfl, hb⟩
  have z_w5 : Vw4.heap.size ≤ w5.heap.size := hb.size
  have HB_w5 : Hid (Below w.heap.size w w5) := HB_Vw4.out.trans (hb.mono HB_Vw4.out.size)
  have HP_w5 : Hid (Bk w5 w.heap.size 28 #[.int .i64 p.n, v1, .int .i64 p.st.q, .int .i64 p.st.d, v4, v5, v6]) := HP_Vw4.out.below hb
  have HR_w5 : Hid (PartF (fun k => w3.heap.size ≤ k ∧ k < w4.heap.size) w5 (.agg #[.int .i64 p.n, .slice a1 p.st.r.length c1, .int .i64 p.st.q, .int .i64 p.st.d, .slice a4 p.p.length c4, .slice a5 p.t.length c5, .slice a6 p.a.length c6]) p) := HR_Vw4.out.under hb
  have HX0_w5 : Hid (Bk w5 w4.heap.size 35 #[.int .i64 p.n, .slice a1 p.st.r.length c1, .int .i64 p.st.q, .int .i64 p.st.d, .slice a4 p.p.length c4, .slice a5 p.t.length c5, .slice a6 p.a.length c6]) := HX0_Vw4.out.below hb
  clear HB_Vw4 HP_Vw4 HR_Vw4 HX0_Vw4 hb
  have p0 := HP_w5.out.cell (i := 0) rfl
  have p1 := HP_w5.out.cell (i := 1) rfl
  have p2 := HP_w5.out.cell (i := 2) rfl
  have p3 := HP_w5.out.cell (i := 3) rfl
  have p4 := HP_w5.out.cell (i := 4) rfl
  have p5 := HP_w5.out.cell (i := 5) rfl
  have p6 := HP_w5.out.cell (i := 6) rfl
  have r0 := HX0_w5.out.cell (i := 0) rfl
  have r1 := HX0_w5.out.cell (i := 1) rfl
  have r2 := HX0_w5.out.cell (i := 2) rfl
  have r3 := HX0_w5.out.cell (i := 3) rfl
  have r4 := HX0_w5.out.cell (i := 4) rfl
  have r5 := HX0_w5.out.cell (i := 5) rfl
  have r6 := HX0_w5.out.cell (i := 6) rfl
  go_wp2_with fail
  have hzz : w.heap.size < w5.heap.size := by omega
  have hzy : w4.heap.size < w5.heap.size := by omega
  go_region_held3 (fun W => W.cell? ⟨w.heap.size, 0, none⟩ = some (.int .i64 p.n) ∧ W.cell? ⟨w.heap.size, 1, none⟩ = some (v1) ∧ W.cell? ⟨w.heap.size, 2, none⟩ = some (.int .i64 p.st.q) ∧ W.cell? ⟨w.heap.size, 3, none⟩ = some (.int .i64 p.st.d) ∧ W.cell? ⟨w.heap.size, 4, none⟩ = some (v4) ∧ W.cell? ⟨w.heap.size, 5, none⟩ = some (v5) ∧ W.cell? ⟨w.heap.size, 6, none⟩ = some (v6) ∧ W.cell? ⟨w4.heap.size, 0, none⟩ = some (.int .i64 p.n) ∧ W.cell? ⟨w4.heap.size, 1, none⟩ = some (.slice a1 p.st.r.length c1) ∧ W.cell? ⟨w4.heap.size, 2, none⟩ = some (.int .i64 p.st.q) ∧ W.cell? ⟨w4.heap.size, 3, none⟩ = some (.int .i64 p.st.d) ∧ W.cell? ⟨w4.heap.size, 4, none⟩ = some (.slice a4 p.p.length c4) ∧ W.cell? ⟨w4.heap.size, 5, none⟩ = some (.slice a5 p.t.length c5) ∧ W.cell? ⟨w4.heap.size, 6, none⟩ = some (.slice a6 p.a.length c6)) ((repeat' apply And.intro) <;> first | (go_keep; done) | (rw [hcA _ _ (by first | omega | (simp; omega))]; simp [*]; done))
    (first | (go_at_call 10; refine (toPart_any _ p _ HSM.out (HX.out.under HB_w5.out.drew)).mono ?_; rintro e w6 ⟨y2, rfl, hbw6, hr2⟩; obtain ⟨hcA, hfA⟩ := bcell hbw6; have hzw6 : w5.heap.size ≤ w6.heap.size := hbw6.size) | (go_at_call 12; refine (eqPart_same _ _ p _ HSM.out (HR_w5.out.under ((Below.refl _ w5).drew.trans hbw6)).is hr2.is).mono ?_; rintro e w7 ⟨rfl, hbw7⟩; obtain ⟨hcA, hfA⟩ := bcell hbw7; have hzw7 : w6.heap.size ≤ w7.heap.size := hbw7.size))
  clear hcA hfA
  have hbc : Below w5.heap.size w5 w7 := ((Below.refl w5.heap.size w5).drew.trans (hbw6.mono (Nat.le_refl _))).trans (hbw7.mono (by omega))
  clear p0 p1 p2 p3 p4 p5 p6 r0 r1 r2 r3 r4 r5 r6
  have HB_w7 : Hid (Below w.heap.size w w7) := HB_w5.out.trans (hbc.mono HB_w5.out.size)
  clear hbc hr2 hbw6 hzw6 hbw7 hzw7 hzz hzy
  go_wp2
  go_ret
  exact ⟨rfl, HB_w7.out⟩
end Go.Proofs.Ytglmdocokfnmcaa.LawExactSaved
