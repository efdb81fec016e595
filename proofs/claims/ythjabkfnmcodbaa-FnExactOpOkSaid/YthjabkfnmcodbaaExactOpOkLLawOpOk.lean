/- At every model and op the program's OpOk answers as the specification's, and writes into nothing that it is given; no condition. -/
import Derived.Test.YthjabkfnmcodbaaExactOpOkG05
import Derived.Test.YthjabkfnmcodbaaExactOpOkG09
import Derived.Test.YthjabkfnmcodbaaExactOpOkLMOpen
namespace Go.Proofs.Ythjabkfnmcodbaa.LawExactOpOk
open Go.ChangeShapes Go.WideShapes Go.ChangeAt Go.RowKit Go.Proofs.Ythjabkfnmcodbaa

set_option maxRecDepth 100000 in
set_option maxHeartbeats 16000000 in
theorem walk (x : Value) (m : Md) (c a b k : Int) (w : World) (hx : IsM w x m) :
    Calls Try.prog 3 #[x, .agg #[.int .i64 c, .int .i64 a, .int .i64 b, .int .i64 k]] w fun e w' => e = .returned (.bool true) ∧ Below w.heap.size w w' := by
  have HX : Hid (IsM w x m) := hx
  obtain ⟨vi, vh, vs, rfl, _⟩ := hx
  obtain ⟨n, hn⟩ : ∃ n, n = m.n := ⟨_, rfl⟩
  obtain ⟨s, hs⟩ : ∃ s, s = m.s := ⟨_, rfl⟩
  obtain ⟨z, hz⟩ : ∃ z, z = m.z := ⟨_, rfl⟩
  rw [← hn, ← hs, ← hz] at HX ⊢
  clear hn hs hz
  obtain ⟨W0, hW0⟩ : ∃ W0, (w.alloc (.cells #[.int .i64 n, .int .i64 s, vi, vh, vs, .int .i64 z] 26)).alloc (.cells #[.int .i64 c, .int .i64 a, .int .i64 b, .int .i64 k] 28) = W0 := ⟨_, rfl⟩
  have HB_W0 : Hid (Below w.heap.size w W0) := by rw [← hW0]; exact ((Below.refl _ w).alloc (Nat.le_refl _) _).alloc (by simp) _
  have HP_W0 : Hid (Bk W0 w.heap.size 26 #[.int .i64 n, .int .i64 s, vi, vh, vs, .int .i64 z]) := by rw [← hW0]; exact (Bk.new w _ _).alloc _
  have HQ_W0 : Hid (Bk W0 (w.heap.size + 1) 28 #[.int .i64 c, .int .i64 a, .int .i64 b, .int .i64 k]) := by rw [← hW0]; exact Bk.newAt (by simp) _ _
  have HW0 : Hid ((w.alloc (.cells #[.int .i64 n, .int .i64 s, vi, vh, vs, .int .i64 z] 26)).alloc (.cells #[.int .i64 c, .int .i64 a, .int .i64 b, .int .i64 k] 28) = W0) := hW0
  clear hW0
  go_enter Try.func3, Try.ntmps3
  go_wp2_with fail
  rw [HW0.out]
  clear HW0
  refine (szModel_any _ m _ (HX.out.below HB_W0.out)).mono ?_
  rintro e w1 ⟨⟨r, rfl, hr⟩, hb⟩
  have z_w1 : W0.heap.size ≤ w1.heap.size := hb.size
  have HB_w1 : Hid (Below w.heap.size w w1) := HB_W0.out.trans (hb.mono HB_W0.out.size)
  have HP_w1 : Hid (Bk w1 w.heap.size 26 #[.int .i64 n, .int .i64 s, vi, vh, vs, .int .i64 z]) := HP_W0.out.below hb
  have HQ_w1 : Hid (Bk w1 (w.heap.size + 1) 28 #[.int .i64 c, .int .i64 a, .int .i64 b, .int .i64 k]) := HQ_W0.out.below hb
  clear HB_W0 HP_W0 HQ_W0
  clear hb
  rcases hr with rfl | ⟨hr0, hsm⟩
  case inl =>
    go_wp2
    go_ret
    exact ⟨rfl, HB_w1.out⟩
  have hr1 : ¬ (r < 0) := by omega
  have HSM : Hid (SmallM m) := hsm
  clear hsm hr0
  have p0 := HP_w1.out.cell (i := 0) rfl
  have p1 := HP_w1.out.cell (i := 1) rfl
  have p2 := HP_w1.out.cell (i := 2) rfl
  have p3 := HP_w1.out.cell (i := 3) rfl
  have p4 := HP_w1.out.cell (i := 4) rfl
  have p5 := HP_w1.out.cell (i := 5) rfl
  have q0 := HQ_w1.out.cell (i := 0) rfl
  have q1 := HQ_w1.out.cell (i := 1) rfl
  have q2 := HQ_w1.out.cell (i := 2) rfl
  have q3 := HQ_w1.out.cell (i := 3) rfl
  go_wp2_with fail
  have hzz : w.heap.size + 1 < w1.heap.size := HQ_w1.out.lt
  go_region_held3 (fun W => W.cell? ⟨w.heap.size, 0, none⟩ = some (.int .i64 n) ∧ W.cell? ⟨w.heap.size, 1, none⟩ = some (.int .i64 s) ∧ W.cell? ⟨w.heap.size, 2, none⟩ = some vi ∧ W.cell? ⟨w.heap.size, 3, none⟩ = some vh ∧ W.cell? ⟨w.heap.size, 4, none⟩ = some vs ∧ W.cell? ⟨w.heap.size, 5, none⟩ = some (.int .i64 z) ∧ W.cell? ⟨w.heap.size + 1, 0, none⟩ = some (.int .i64 c) ∧ W.cell? ⟨w.heap.size + 1, 1, none⟩ = some (.int .i64 a) ∧ W.cell? ⟨w.heap.size + 1, 2, none⟩ = some (.int .i64 b) ∧ W.cell? ⟨w.heap.size + 1, 3, none⟩ = some (.int .i64 k)) ((repeat' apply And.intro) <;> first | (go_keep; done) | (rw [hcA _ _ (by first | omega | (simp; omega))]; simp [*]; done))
    (first | (go_at_call 10; refine (toModel_any _ m _ HSM.out (HX.out.below HB_w1.out.drew)).mono ?_; rintro e w2 ⟨y0, rfl, hbw2, hr2⟩; obtain ⟨hcA, hfA⟩ := bcell hbw2; have hzw2 : w1.heap.size ≤ w2.heap.size := hbw2.size) | (go_at_call 11; refine (toOp_any _ _ _ _ _).mono ?_; rintro e w3 ⟨rfl, hbw3⟩; obtain ⟨hcA, hfA⟩ := bcell hbw3; have hzw3 : w2.heap.size ≤ w3.heap.size := hbw3.size) | (go_at_call 9; refine (sOpM _ m _ _ _ _ _ (hr2.below hbw3).isM).mono ?_; rintro e w4 ⟨rfl, hbw4⟩; obtain ⟨hcA, hfA⟩ := bcell hbw4; have hzw4 : w3.heap.size ≤ w4.heap.size := hbw4.size))
  clear hcA hfA
  have hbc : Below w1.heap.size w1 w4 := ((((Below.refl w1.heap.size w1).drew).trans (hbw2.mono (Nat.le_refl _))).trans (hbw3.mono (by omega))).trans (hbw4.mono (by omega))
  clear p0 p1 p2 p3 p4 p5 q0 q1 q2 q3
  have z_w4 : w1.heap.size ≤ w4.heap.size := hbc.size
  have HB_w4 : Hid (Below w.heap.size w w4) := HB_w1.out.trans (hbc.mono HB_w1.out.size)
  have HP_w4 : Hid (Bk w4 w.heap.size 26 #[.int .i64 n, .int .i64 s, vi, vh, vs, .int .i64 z]) := HP_w1.out.below hbc
  have HQ_w4 : Hid (Bk w4 (w.heap.size + 1) 28 #[.int .i64 c, .int .i64 a, .int .i64 b, .int .i64 k]) := HQ_w1.out.below hbc
  clear HB_w1 HP_w1 HQ_w1
  clear hbc hr2 hbw2 hzw2 hbw3 hzw3 hbw4 hzw4 hzz
  have p0 := HP_w4.out.cell (i := 0) rfl
  have p1 := HP_w4.out.cell (i := 1) rfl
  have p2 := HP_w4.out.cell (i := 2) rfl
  have p3 := HP_w4.out.cell (i := 3) rfl
  have p4 := HP_w4.out.cell (i := 4) rfl
  have p5 := HP_w4.out.cell (i := 5) rfl
  have q0 := HQ_w4.out.cell (i := 0) rfl
  have q1 := HQ_w4.out.cell (i := 1) rfl
  have q2 := HQ_w4.out.cell (i := 2) rfl
  have q3 := HQ_w4.out.cell (i := 3) rfl
  go_wp2_with fail
  clear p0 p1 p2 p3 p4 p5 q0 q1 q2 q3
  refine (toModel_any _ m _ HSM.out (HX.out.below HB_w4.out)).mono ?_
  rintro e w5 ⟨y1, rfl, hb, hr⟩
  have HR_w5 : Hid (MdF (fun k => w4.heap.size ≤ k ∧ k < w5.heap.size) w5 y1 m) := hr
  have z_w5 : w4.heap.size ≤ w5.heap.size := hb.size
  have HB_w5 : Hid (Below w.heap.size w w5) := HB_w4.out.trans (hb.mono HB_w4.out.size)
  have HP_w5 : Hid (Bk w5 w.heap.size 26 #[.int .i64 n, .int .i64 s, vi, vh, vs, .int .i64 z]) := HP_w4.out.below hb
  have HQ_w5 : Hid (Bk w5 (w.heap.size + 1) 28 #[.int .i64 c, .int .i64 a, .int .i64 b, .int .i64 k]) := HQ_w4.out.below hb
  clear HB_w4 HP_w4 HQ_w4
  clear hb hr
  obtain ⟨aui, cui, auh, cuh, aue, cue, rfl⟩ := HR_w5.out.form
  obtain ⟨Vw5, hVw5⟩ : ∃ V, w5.alloc (.cells #[.int .i64 m.n, .int .i64 m.s, .slice aui m.i.length cui, .slice auh m.h.length cuh, .slice aue m.e.length cue, .int .i64 m.z] 34) = V := ⟨_, rfl⟩
  have HX0_Vw5 : Hid (Bk Vw5 w5.heap.size 34 #[.int .i64 m.n, .int .i64 m.s, .slice aui m.i.length cui, .slice auh m.h.length cuh, .slice aue m.e.length cue, .int .i64 m.z]) := by rw [← hVw5]; exact Bk.new _ _ _
  have hb : Below w5.heap.size w5 Vw5 := by rw [← hVw5]; exact (Below.refl _ _).alloc (Nat.le_refl _) _
  have z_Vw5 : w5.heap.size ≤ Vw5.heap.size := hb.size
  have HB_Vw5 : Hid (Below w.heap.size w Vw5) := HB_w5.out.trans (hb.mono HB_w5.out.size)
  have HP_Vw5 : Hid (Bk Vw5 w.heap.size 26 #[.int .i64 n, .int .i64 s, vi, vh, vs, .int .i64 z]) := HP_w5.out.below hb
  have HQ_Vw5 : Hid (Bk Vw5 (w.heap.size + 1) 28 #[.int .i64 c, .int .i64 a, .int .i64 b, .int .i64 k]) := HQ_w5.out.below hb
  have HR_Vw5 : Hid (MdF (fun k => w4.heap.size ≤ k ∧ k < w5.heap.size) Vw5 (.agg #[.int .i64 m.n, .int .i64 m.s, .slice aui m.i.length cui, .slice auh m.h.length cuh, .slice aue m.e.length cue, .int .i64 m.z]) m) := HR_w5.out.below hb
  clear HB_w5 HP_w5 HQ_w5 HR_w5
  clear hb
  have p0 := HP_Vw5.out.cell (i := 0) rfl
  have p1 := HP_Vw5.out.cell (i := 1) rfl
  have p2 := HP_Vw5.out.cell (i := 2) rfl
  have p3 := HP_Vw5.out.cell (i := 3) rfl
  have p4 := HP_Vw5.out.cell (i := 4) rfl
  have p5 := HP_Vw5.out.cell (i := 5) rfl
  have q0 := HQ_Vw5.out.cell (i := 0) rfl
  have q1 := HQ_Vw5.out.cell (i := 1) rfl
  have q2 := HQ_Vw5.out.cell (i := 2) rfl
  have q3 := HQ_Vw5.out.cell (i := 3) rfl
  have r0 := HX0_Vw5.out.cell (i := 0) rfl
  have r1 := HX0_Vw5.out.cell (i := 1) rfl
  have r2 := HX0_Vw5.out.cell (i := 2) rfl
  have r3 := HX0_Vw5.out.cell (i := 3) rfl
  have r4 := HX0_Vw5.out.cell (i := 4) rfl
  have r5 := HX0_Vw5.out.cell (i := 5) rfl
  go_wp2_with fail
  clear hVw5
  have hzz : w.heap.size + 1 < Vw5.heap.size := HQ_Vw5.out.lt
  have hzy : w5.heap.size < Vw5.heap.size := HX0_Vw5.out.lt
  go_region_held3 (fun W => W.cell? ⟨w.heap.size + 1, 0, none⟩ = some (.int .i64 c) ∧ W.cell? ⟨w.heap.size + 1, 1, none⟩ = some (.int .i64 a) ∧ W.cell? ⟨w.heap.size + 1, 2, none⟩ = some (.int .i64 b) ∧ W.cell? ⟨w.heap.size + 1, 3, none⟩ = some (.int .i64 k) ∧ W.cell? ⟨w5.heap.size, 0, none⟩ = some (.int .i64 m.n) ∧ W.cell? ⟨w5.heap.size, 1, none⟩ = some (.int .i64 m.s) ∧ W.cell? ⟨w5.heap.size, 2, none⟩ = some (.slice aui m.i.length cui) ∧ W.cell? ⟨w5.heap.size, 3, none⟩ = some (.slice auh m.h.length cuh) ∧ W.cell? ⟨w5.heap.size, 4, none⟩ = some (.slice aue m.e.length cue) ∧ W.cell? ⟨w5.heap.size, 5, none⟩ = some (.int .i64 m.z)) ((repeat' apply And.intro) <;> first | (go_keep; done) | (rw [hcA _ _ (by first | omega | (simp; omega))]; simp [*]; done))
    (first | (go_at_call 11; refine (toOp_any _ _ _ _ _).mono ?_; rintro e w6 ⟨rfl, hbw6⟩; obtain ⟨hcA, hfA⟩ := bcell hbw6; have hzw6 : Vw5.heap.size ≤ w6.heap.size := hbw6.size) | (go_at_call 12; refine (iOpM _ m _ _ _ _ _ (HR_Vw5.out.below ((Below.refl _ Vw5).drew.trans hbw6)).isM).mono ?_; rintro e w7 ⟨rfl, hbw7⟩; obtain ⟨hcA, hfA⟩ := bcell hbw7; have hzw7 : w6.heap.size ≤ w7.heap.size := hbw7.size))
  clear hcA hfA
  have hbc : Below Vw5.heap.size Vw5 w7 := (((Below.refl Vw5.heap.size Vw5).drew).trans (hbw6.mono (Nat.le_refl _))).trans (hbw7.mono (by omega))
  clear p0 p1 p2 p3 p4 p5 q0 q1 q2 q3
  clear r0 r1 r2 r3 r4 r5
  have z_w7 : Vw5.heap.size ≤ w7.heap.size := hbc.size
  have HB_w7 : Hid (Below w.heap.size w w7) := HB_Vw5.out.trans (hbc.mono HB_Vw5.out.size)
  have HP_w7 : Hid (Bk w7 w.heap.size 26 #[.int .i64 n, .int .i64 s, vi, vh, vs, .int .i64 z]) := HP_Vw5.out.below hbc
  have HQ_w7 : Hid (Bk w7 (w.heap.size + 1) 28 #[.int .i64 c, .int .i64 a, .int .i64 b, .int .i64 k]) := HQ_Vw5.out.below hbc
  have HR_w7 : Hid (MdF (fun k => w4.heap.size ≤ k ∧ k < w5.heap.size) w7 (.agg #[.int .i64 m.n, .int .i64 m.s, .slice aui m.i.length cui, .slice auh m.h.length cuh, .slice aue m.e.length cue, .int .i64 m.z]) m) := HR_Vw5.out.below hbc
  have HX0_w7 : Hid (Bk w7 w5.heap.size 34 #[.int .i64 m.n, .int .i64 m.s, .slice aui m.i.length cui, .slice auh m.h.length cuh, .slice aue m.e.length cue, .int .i64 m.z]) := HX0_Vw5.out.below hbc
  clear HB_Vw5 HP_Vw5 HQ_Vw5 HR_Vw5 HX0_Vw5
  clear hbc hbw6 hzw6 hbw7 hzw7 hzz hzy
  have p0 := HP_w7.out.cell (i := 0) rfl
  have p1 := HP_w7.out.cell (i := 1) rfl
  have p2 := HP_w7.out.cell (i := 2) rfl
  have p3 := HP_w7.out.cell (i := 3) rfl
  have p4 := HP_w7.out.cell (i := 4) rfl
  have p5 := HP_w7.out.cell (i := 5) rfl
  have r0 := HX0_w7.out.cell (i := 0) rfl
  have r1 := HX0_w7.out.cell (i := 1) rfl
  have r2 := HX0_w7.out.cell (i := 2) rfl
  have r3 := HX0_w7.out.cell (i := 3) rfl
  have r4 := HX0_w7.out.cell (i := 4) rfl
  have r5 := HX0_w7.out.cell (i := 5) rfl
  go_wp2_with fail
  have hzz : w.heap.size < w7.heap.size := HP_w7.out.lt
  have hzy : w5.heap.size < w7.heap.size := HX0_w7.out.lt
  go_region_held3 (fun W => W.cell? ⟨w.heap.size, 0, none⟩ = some (.int .i64 n) ∧ W.cell? ⟨w.heap.size, 1, none⟩ = some (.int .i64 s) ∧ W.cell? ⟨w.heap.size, 2, none⟩ = some vi ∧ W.cell? ⟨w.heap.size, 3, none⟩ = some vh ∧ W.cell? ⟨w.heap.size, 4, none⟩ = some vs ∧ W.cell? ⟨w.heap.size, 5, none⟩ = some (.int .i64 z) ∧ W.cell? ⟨w5.heap.size, 0, none⟩ = some (.int .i64 m.n) ∧ W.cell? ⟨w5.heap.size, 1, none⟩ = some (.int .i64 m.s) ∧ W.cell? ⟨w5.heap.size, 2, none⟩ = some (.slice aui m.i.length cui) ∧ W.cell? ⟨w5.heap.size, 3, none⟩ = some (.slice auh m.h.length cuh) ∧ W.cell? ⟨w5.heap.size, 4, none⟩ = some (.slice aue m.e.length cue) ∧ W.cell? ⟨w5.heap.size, 5, none⟩ = some (.int .i64 m.z)) ((repeat' apply And.intro) <;> first | (go_keep; done) | (rw [hcA _ _ (by first | omega | (simp; omega))]; simp [*]; done))
    (first | (go_at_call 10; refine (toModel_any _ m _ HSM.out (HX.out.below HB_w7.out.drew)).mono ?_; rintro e w8 ⟨y2, rfl, hbw8, hr2⟩; obtain ⟨hcA, hfA⟩ := bcell hbw8; have hzw8 : w7.heap.size ≤ w8.heap.size := hbw8.size) | (go_at_call 13; refine (eqModel_same _ _ m _ HSM.out (HR_w7.out.below ((Below.refl _ w7).drew.trans hbw8)).isM hr2.isM).mono ?_; rintro e w9 ⟨rfl, hbw9⟩; obtain ⟨hcA, hfA⟩ := bcell hbw9; have hzw9 : w8.heap.size ≤ w9.heap.size := hbw9.size))
  clear hcA hfA
  have hbc : Below w7.heap.size w7 w9 := (((Below.refl w7.heap.size w7).drew).trans (hbw8.mono (Nat.le_refl _))).trans (hbw9.mono (by omega))
  clear p0 p1 p2 p3 p4 p5
  clear r0 r1 r2 r3 r4 r5
  have z_w9 : w7.heap.size ≤ w9.heap.size := hbc.size
  have HB_w9 : Hid (Below w.heap.size w w9) := HB_w7.out.trans (hbc.mono HB_w7.out.size)
  have HP_w9 : Hid (Bk w9 w.heap.size 26 #[.int .i64 n, .int .i64 s, vi, vh, vs, .int .i64 z]) := HP_w7.out.below hbc
  have HQ_w9 : Hid (Bk w9 (w.heap.size + 1) 28 #[.int .i64 c, .int .i64 a, .int .i64 b, .int .i64 k]) := HQ_w7.out.below hbc
  have HR_w9 : Hid (MdF (fun k => w4.heap.size ≤ k ∧ k < w5.heap.size) w9 (.agg #[.int .i64 m.n, .int .i64 m.s, .slice aui m.i.length cui, .slice auh m.h.length cuh, .slice aue m.e.length cue, .int .i64 m.z]) m) := HR_w7.out.below hbc
  have HX0_w9 : Hid (Bk w9 w5.heap.size 34 #[.int .i64 m.n, .int .i64 m.s, .slice aui m.i.length cui, .slice auh m.h.length cuh, .slice aue m.e.length cue, .int .i64 m.z]) := HX0_w7.out.below hbc
  clear HB_w7 HP_w7 HQ_w7 HR_w7 HX0_w7
  clear hbc hr2 hbw8 hzw8 hbw9 hzw9 hzz hzy
  go_wp2
  go_ret
  exact ⟨rfl, HB_w9.out⟩

set_option maxRecDepth 100000 in
theorem lifted (os : Os) (started : os.Started) (H : Type) (enc : TypeId × Value → H) :
    ReturnsInHanded {} Try.checked os 3 .any (Rows.fnExactOpOkSpec.pre6 enc Try.prog Try.f3 Rows.fnExactOpOkRow.domain false) (Rows.fnExactOpOkSpec.post enc Try.prog Try.f3 false true false false) := by
  refine returnsInHanded_of_change (C := Try.checked) own started (by kernel_rfl) Try.func3
    (ChangeSpec.witness6 (enc := enc) (C := Try.checked) false ⟨#[], #[.agg #[.int .i64 0, .int .i64 0, .slice none 0 0, .slice none 0 0, .slice none 0 0, .int .i64 0], .agg #[.int .i64 0, .int .i64 0, .int .i64 0, .int .i64 0]], []⟩ 8 (by kernel_rfl) (by kernel_rfl) (by kernel_rfl) (by kernel_rfl)) ?_
  intro W base args ds gs before hval0 hW hcnd _
  have hval : ∀ (j : Nat) t v, Try.f3.params[j]? = some t → args[j]? = some v → Value.okWide Try.prog W .any base t v := hval0
  have hW' := hW
  obtain ⟨p, q, hA0, hV, rfl, hfz, hnd⟩ := hW
  have hA : DataW.TrodAll enc Try.prog W 0 (fun _ => true) true Try.f3.params.toList args.toList ds p := hA0
  rw [Try.params3] at hA hval
  obtain ⟨v0, vs0, d0, ds0, p0, q0, hargs, rfl, rfl, h0, r0⟩ := trodAll_cons hA
  obtain ⟨v1, vs1, d1, ds1, p1, q1, rfl, rfl, rfl, h1, r1⟩ := trodAll_cons r0
  obtain ⟨rfl, rfl, rfl⟩ := trodAll_nil r1
  obtain rfl : args = #[v0, v1] := by cases args; simp_all
  obtain ⟨rfl, rfl⟩ := trodVars_none hV
  have kk0 := h0
  have lt0 : ∀ x ∈ p0, x.block < W.heap.size := by obtain ⟨m, hm⟩ := kk0; exact DataW.trod_lt m _ _ _ hm
  have kk1 := h1
  have lt1 : ∀ x ∈ p1, x.block < W.heap.size := by obtain ⟨m, hm⟩ := kk1; exact DataW.trod_lt m _ _ _ hm
  obtain ⟨l0, g0⟩ := open_model (hval 0 26 v0 rfl rfl) h0
  obtain ⟨c1, a1, b1, k1, rfl, u1⟩ := open_op (hval 1 28 v1 rfl rfl) h1
  clear hA0 hval0
  refine (walk v0 l0 c1 a1 b1 k1 W g0).mono fun e W' ⟨he, bel⟩ => ?_
  subst he
  exact ⟨_, rfl, _, _, _, [], _, [], hW', trodAll_mk1 (shut_bool Try.underlying4 _), (trodAll_cons_mk (Below.trod laidOut (by kernel_rfl) (of_decide_eq_true (by kernel_rfl)) kk0 bel lt0) (trodAll_cons_mk (Below.trod laidOut (by kernel_rfl) (of_decide_eq_true (by kernel_rfl)) kk1 bel lt1) trodAll_mk0)), rfl, bel.frame _, fun h => by cases h⟩

theorem over : Rows.fnExactOpOkRow.holds Try.pinned (OpenSpec.ofChange Rows.fnExactOpOkSpec) :=
  OpenClaim.holds_of_wide 3 Try.f3 rfl rfl rfl rfl rfl rfl rfl ⟨rfl, rfl, rfl, rfl, rfl⟩ rfl rfl rfl rfl rfl (by kernel_rfl) Try.func3 (by kernel_rfl)
    (of_decide_eq_true (by kernel_rfl)) (by unfold Func.isWrapper; first | (rw [if_pos (by decide +kernel)]; kernel_rfl) | (rw [if_neg (by decide +kernel)]; exact ⟨rfl, rfl⟩))
    (fun os started H enc _ => lifted os started H enc)
end Go.Proofs.Ythjabkfnmcodbaa.LawExactOpOk
namespace Go.Proofs.Ythjabkfnmcodbaa
theorem opOk_holds : Rows.FnExactOpOkSaid := LawExactOpOk.over
#print axioms opOk_holds
end Go.Proofs.Ythjabkfnmcodbaa
