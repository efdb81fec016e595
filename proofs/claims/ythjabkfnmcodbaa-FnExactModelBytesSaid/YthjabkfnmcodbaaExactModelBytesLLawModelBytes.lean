/- At every model the program's ModelBytes answers as the specification's, its answer owns its memory, and it writes into nothing that it is given; no condition. -/
import Derived.Test.YthjabkfnmcodbaaExactModelBytesLMByJ
import Derived.Test.YthjabkfnmcodbaaExactModelBytesG20
namespace Go.Proofs.Ythjabkfnmcodbaa.LawExactModelBytes
open Go.ChangeShapes Go.WideShapes Go.ChangeAt Go.RowKit Go.Proofs.Ythjabkfnmcodbaa

set_option maxRecDepth 100000 in
set_option maxHeartbeats 16000000 in
theorem walk (x : Value) (m : Md) (w : World) (hx : IsM w x m) :
    Calls Try.prog 5 #[x] w fun e w' => e = .returned (.bool true) ∧ Below w.heap.size w w' := by
  have HX : Hid (IsM w x m) := hx
  obtain ⟨vi, vh, vs, rfl, _⟩ := hx
  obtain ⟨n, hn⟩ : ∃ n, n = m.n := ⟨_, rfl⟩
  obtain ⟨s, hs⟩ : ∃ s, s = m.s := ⟨_, rfl⟩
  obtain ⟨z, hz⟩ : ∃ z, z = m.z := ⟨_, rfl⟩
  rw [← hn, ← hs, ← hz] at HX ⊢
  clear hn hs hz
  obtain ⟨W0, hW0⟩ : ∃ W0, w.alloc (.cells #[.int .i64 n, .int .i64 s, vi, vh, vs, .int .i64 z] 26) = W0 := ⟨_, rfl⟩
  have HB_W0 : Hid (Below w.heap.size w W0) := by rw [← hW0]; exact (Below.refl _ w).alloc (Nat.le_refl _) _
  have HP_W0 : Hid (Bk W0 w.heap.size 26 #[.int .i64 n, .int .i64 s, vi, vh, vs, .int .i64 z]) := by rw [← hW0]; exact Bk.new w _ _
  have HW0 : Hid (w.alloc (.cells #[.int .i64 n, .int .i64 s, vi, vh, vs, .int .i64 z] 26) = W0) := hW0
  clear hW0
  go_enter Try.func5, Try.ntmps5
  go_wp2_with fail
  rw [HW0.out]
  clear HW0
  refine (szModel_any _ m _ (HX.out.below HB_W0.out)).mono ?_
  rintro e w1 ⟨⟨r, rfl, hr⟩, hb⟩
  have z_w1 : W0.heap.size ≤ w1.heap.size := hb.size
  have HB_w1 : Hid (Below w.heap.size w w1) := HB_W0.out.trans (hb.mono HB_W0.out.size)
  have HP_w1 : Hid (Bk w1 w.heap.size 26 #[.int .i64 n, .int .i64 s, vi, vh, vs, .int .i64 z]) := HP_W0.out.below hb
  clear HB_W0 HP_W0
  clear hb
  rcases hr with rfl | ⟨hr0, hsm⟩
  case inl =>
    go_wp2
    go_ret
    exact ⟨rfl, HB_w1.out⟩
  have hr1 : ¬ (r < 0) := by omega
  have HSM : Hid (SmallM m) := hsm
  clear hsm hr0
  have HC : Hid (∃ r b, r.length ≤ 1048576 ∧ (∀ (v0 : Value) (W : World), IsM W v0 m → Calls Try.prog 16 #[v0] W fun e w' => ∃ u, e = .returned (.tuple #[u, .bool b]) ∧ By.OwnI W.heap.size w' u r ∧ Below W.heap.size W w') ∧ (∀ (v0 : Value) (W : World), IsM W v0 m → Calls Try.prog 17 #[v0] W fun e w' => ∃ u, e = .returned (.tuple #[u, .bool b]) ∧ By.OwnI W.heap.size w' u r ∧ Below W.heap.size W w') ∧ b = m.ok) := ⟨(bytesR m), m.ok, bytesR_length m, fun v0 W h0 => sBytesM v0 m W HSM.out h0, fun v0 W h0 => iBytesM v0 m W HSM.out h0, rfl⟩
  obtain ⟨r, b, hr0, hsp, him, hbb⟩ := HC.out
  have HSP : Hid (∀ (v0 : Value) (W : World), IsM W v0 m → Calls Try.prog 16 #[v0] W fun e w' => ∃ u, e = .returned (.tuple #[u, .bool b]) ∧ By.OwnI W.heap.size w' u r ∧ Below W.heap.size W w') := hsp
  have HIM : Hid (∀ (v0 : Value) (W : World), IsM W v0 m → Calls Try.prog 17 #[v0] W fun e w' => ∃ u, e = .returned (.tuple #[u, .bool b]) ∧ By.OwnI W.heap.size w' u r ∧ Below W.heap.size W w') := him
  clear HC hsp him hbb
  have p0 := HP_w1.out.cell (i := 0) rfl
  have p1 := HP_w1.out.cell (i := 1) rfl
  have p2 := HP_w1.out.cell (i := 2) rfl
  have p3 := HP_w1.out.cell (i := 3) rfl
  have p4 := HP_w1.out.cell (i := 4) rfl
  have p5 := HP_w1.out.cell (i := 5) rfl
  go_wp2_with fail
  clear p0 p1 p2 p3 p4 p5
  refine (toModel_any _ m _ HSM.out (HX.out.below HB_w1.out)).mono ?_
  rintro e w2 ⟨y0, rfl, hb, hr⟩
  have HT_w2 : Hid (MdF (fun k => w1.heap.size ≤ k ∧ k < w2.heap.size) w2 y0 m) := hr
  have z_w2 : w1.heap.size ≤ w2.heap.size := hb.size
  have HB_w2 : Hid (Below w.heap.size w w2) := HB_w1.out.trans (hb.mono HB_w1.out.size)
  have HP_w2 : Hid (Bk w2 w.heap.size 26 #[.int .i64 n, .int .i64 s, vi, vh, vs, .int .i64 z]) := HP_w1.out.below hb
  clear HB_w1 HP_w1
  clear hb hr
  go_wp2_with fail
  refine (HSP.out _ _ HT_w2.out.isM).mono ?_
  rintro e w3 ⟨xs, rfl, ho, hb⟩
  have HS_w3 : Hid (By.LowI w3.heap.size w3 xs r) := ho.isI.low
  have z_w3 : w2.heap.size ≤ w3.heap.size := hb.size
  have HB_w3 : Hid (Below w.heap.size w w3) := HB_w2.out.trans (hb.mono HB_w2.out.size)
  have HP_w3 : Hid (Bk w3 w.heap.size 26 #[.int .i64 n, .int .i64 s, vi, vh, vs, .int .i64 z]) := HP_w2.out.below hb
  clear HB_w2 HP_w2 HT_w2
  clear hb ho HSP
  have hX0 : w.heap.size < w3.heap.size := HP_w3.out.lt
  have p0 := HP_w3.out.cell (i := 0) rfl
  have p1 := HP_w3.out.cell (i := 1) rfl
  have p2 := HP_w3.out.cell (i := 2) rfl
  have p3 := HP_w3.out.cell (i := 3) rfl
  have p4 := HP_w3.out.cell (i := 4) rfl
  have p5 := HP_w3.out.cell (i := 5) rfl
  go_wp2_with fail
  clear p0 p1 p2 p3 p4 p5
  refine (toModel_any _ m _ HSM.out (HX.out.below HB_w3.out)).mono ?_
  rintro e w4 ⟨y1, rfl, hb, hr⟩
  have HR_w4 : Hid (MdF (fun k => w3.heap.size ≤ k ∧ k < w4.heap.size) w4 y1 m) := hr
  have z_w4 : w3.heap.size ≤ w4.heap.size := hb.size
  have HB_w4 : Hid (Below w.heap.size w w4) := HB_w3.out.trans (hb.mono HB_w3.out.size)
  have HP_w4 : Hid (Bk w4 w.heap.size 26 #[.int .i64 n, .int .i64 s, vi, vh, vs, .int .i64 z]) := HP_w3.out.below hb
  have HS_w4 : Hid (By.LowI w3.heap.size w4 xs r) := HS_w3.out.below (hb.mono (by omega))
  clear HB_w3 HP_w3 HS_w3
  clear hb hr
  obtain ⟨aui, cui, auh, cuh, aue, cue, rfl⟩ := HR_w4.out.form
  obtain ⟨Vw4, hVw4⟩ : ∃ V, w4.alloc (.cells #[.int .i64 m.n, .int .i64 m.s, .slice aui m.i.length cui, .slice auh m.h.length cuh, .slice aue m.e.length cue, .int .i64 m.z] 34) = V := ⟨_, rfl⟩
  have HX0_Vw4 : Hid (Bk Vw4 w4.heap.size 34 #[.int .i64 m.n, .int .i64 m.s, .slice aui m.i.length cui, .slice auh m.h.length cuh, .slice aue m.e.length cue, .int .i64 m.z]) := by rw [← hVw4]; exact Bk.new _ _ _
  have hb : Below w4.heap.size w4 Vw4 := by rw [← hVw4]; exact (Below.refl _ _).alloc (Nat.le_refl _) _
  have z_Vw4 : w4.heap.size ≤ Vw4.heap.size := hb.size
  have HB_Vw4 : Hid (Below w.heap.size w Vw4) := HB_w4.out.trans (hb.mono HB_w4.out.size)
  have HP_Vw4 : Hid (Bk Vw4 w.heap.size 26 #[.int .i64 n, .int .i64 s, vi, vh, vs, .int .i64 z]) := HP_w4.out.below hb
  have HS_Vw4 : Hid (By.LowI w3.heap.size Vw4 xs r) := HS_w4.out.below (hb.mono (by omega))
  have HR_Vw4 : Hid (MdF (fun k => w3.heap.size ≤ k ∧ k < w4.heap.size) Vw4 (.agg #[.int .i64 m.n, .int .i64 m.s, .slice aui m.i.length cui, .slice auh m.h.length cuh, .slice aue m.e.length cue, .int .i64 m.z]) m) := HR_w4.out.below hb
  clear HB_w4 HP_w4 HS_w4 HR_w4
  clear hb
  have r0 := HX0_Vw4.out.cell (i := 0) rfl
  have r1 := HX0_Vw4.out.cell (i := 1) rfl
  have r2 := HX0_Vw4.out.cell (i := 2) rfl
  have r3 := HX0_Vw4.out.cell (i := 3) rfl
  have r4 := HX0_Vw4.out.cell (i := 4) rfl
  have r5 := HX0_Vw4.out.cell (i := 5) rfl
  have hV0 : w4.heap.size < Vw4.heap.size := HX0_Vw4.out.lt
  go_wp2_with fail
  clear hVw4
  clear r0 r1 r2 r3 r4 r5
  refine (HIM.out _ _ HR_Vw4.out.isM).mono ?_
  rintro e w5 ⟨xg, rfl, ho, hb⟩
  have HG_w5 : Hid (By.OwnI Vw4.heap.size w5 xg r) := ho
  have z_w5 : Vw4.heap.size ≤ w5.heap.size := hb.size
  have HB_w5 : Hid (Below w.heap.size w w5) := HB_Vw4.out.trans (hb.mono HB_Vw4.out.size)
  have HP_w5 : Hid (Bk w5 w.heap.size 26 #[.int .i64 n, .int .i64 s, vi, vh, vs, .int .i64 z]) := HP_Vw4.out.below hb
  have HS_w5 : Hid (By.LowI w3.heap.size w5 xs r) := HS_Vw4.out.below (hb.mono (by omega))
  have HR_w5 : Hid (MdF (fun k => w3.heap.size ≤ k ∧ k < w4.heap.size) w5 (.agg #[.int .i64 m.n, .int .i64 m.s, .slice aui m.i.length cui, .slice auh m.h.length cuh, .slice aue m.e.length cue, .int .i64 m.z]) m) := HR_Vw4.out.below hb
  have HX0_w5 : Hid (Bk w5 w4.heap.size 34 #[.int .i64 m.n, .int .i64 m.s, .slice aui m.i.length cui, .slice auh m.h.length cuh, .slice aue m.e.length cue, .int .i64 m.z]) := HX0_Vw4.out.below hb
  clear HB_Vw4 HP_Vw4 HS_Vw4 HR_Vw4 HX0_Vw4
  clear hb ho
  go_wp2_with fail
  refine (By.eqI_same _ _ r _ (by omega) HG_w5.out.isI HS_w5.out.isI).mono ?_
  rintro e w6 ⟨rfl, hb⟩
  have z_w6 : w5.heap.size ≤ w6.heap.size := hb.size
  have HB_w6 : Hid (Below w.heap.size w w6) := HB_w5.out.trans (hb.mono HB_w5.out.size)
  have HP_w6 : Hid (Bk w6 w.heap.size 26 #[.int .i64 n, .int .i64 s, vi, vh, vs, .int .i64 z]) := HP_w5.out.below hb
  have HS_w6 : Hid (By.LowI w3.heap.size w6 xs r) := HS_w5.out.below (hb.mono (by omega))
  have HR_w6 : Hid (MdF (fun k => w3.heap.size ≤ k ∧ k < w4.heap.size) w6 (.agg #[.int .i64 m.n, .int .i64 m.s, .slice aui m.i.length cui, .slice auh m.h.length cuh, .slice aue m.e.length cue, .int .i64 m.z]) m) := HR_w5.out.below hb
  have HX0_w6 : Hid (Bk w6 w4.heap.size 34 #[.int .i64 m.n, .int .i64 m.s, .slice aui m.i.length cui, .slice auh m.h.length cuh, .slice aue m.e.length cue, .int .i64 m.z]) := HX0_w5.out.below hb
  have HG_w6 : Hid (By.OwnI Vw4.heap.size w6 xg r) := HG_w5.out.below hb
  clear HB_w5 HP_w5 HS_w5 HR_w5 HX0_w5 HG_w5
  clear hb
  have p0 := HP_w6.out.cell (i := 0) rfl
  have p1 := HP_w6.out.cell (i := 1) rfl
  have p2 := HP_w6.out.cell (i := 2) rfl
  have p3 := HP_w6.out.cell (i := 3) rfl
  have p4 := HP_w6.out.cell (i := 4) rfl
  have p5 := HP_w6.out.cell (i := 5) rfl
  have r0 := HX0_w6.out.cell (i := 0) rfl
  have r1 := HX0_w6.out.cell (i := 1) rfl
  have r2 := HX0_w6.out.cell (i := 2) rfl
  have r3 := HX0_w6.out.cell (i := 3) rfl
  have r4 := HX0_w6.out.cell (i := 4) rfl
  have r5 := HX0_w6.out.cell (i := 5) rfl
  go_wp2_with fail
  have hzz : w.heap.size < w6.heap.size := HP_w6.out.lt
  have hzy : w4.heap.size < w6.heap.size := HX0_w6.out.lt
  go_region_held3 (fun W => W.cell? ⟨w.heap.size, 0, none⟩ = some (.int .i64 n) ∧ W.cell? ⟨w.heap.size, 1, none⟩ = some (.int .i64 s) ∧ W.cell? ⟨w.heap.size, 2, none⟩ = some vi ∧ W.cell? ⟨w.heap.size, 3, none⟩ = some vh ∧ W.cell? ⟨w.heap.size, 4, none⟩ = some vs ∧ W.cell? ⟨w.heap.size, 5, none⟩ = some (.int .i64 z) ∧ W.cell? ⟨w4.heap.size, 0, none⟩ = some (.int .i64 m.n) ∧ W.cell? ⟨w4.heap.size, 1, none⟩ = some (.int .i64 m.s) ∧ W.cell? ⟨w4.heap.size, 2, none⟩ = some (.slice aui m.i.length cui) ∧ W.cell? ⟨w4.heap.size, 3, none⟩ = some (.slice auh m.h.length cuh) ∧ W.cell? ⟨w4.heap.size, 4, none⟩ = some (.slice aue m.e.length cue) ∧ W.cell? ⟨w4.heap.size, 5, none⟩ = some (.int .i64 m.z)) ((repeat' apply And.intro) <;> first | (go_keep; done) | (rw [hcA _ _ (by first | omega | (simp; omega))]; simp [*]; done))
    (first | (go_at_call 10; refine (toModel_any _ m _ HSM.out (HX.out.below HB_w6.out.drew)).mono ?_; rintro e w7 ⟨y2, rfl, hbw7, hr2⟩; obtain ⟨hcA, hfA⟩ := bcell hbw7; have hzw7 : w6.heap.size ≤ w7.heap.size := hbw7.size) | (go_at_call 13; refine (eqModel_same _ _ m _ HSM.out (HR_w6.out.below ((Below.refl _ w6).drew.trans hbw7)).isM hr2.isM).mono ?_; rintro e w8 ⟨rfl, hbw8⟩; obtain ⟨hcA, hfA⟩ := bcell hbw8; have hzw8 : w7.heap.size ≤ w8.heap.size := hbw8.size))
  clear hcA hfA
  have hbc : Below w6.heap.size w6 w8 := (((Below.refl w6.heap.size w6).drew).trans (hbw7.mono (Nat.le_refl _))).trans (hbw8.mono (by omega))
  clear p0 p1 p2 p3 p4 p5
  clear r0 r1 r2 r3 r4 r5
  have z_w8 : w6.heap.size ≤ w8.heap.size := hbc.size
  have HB_w8 : Hid (Below w.heap.size w w8) := HB_w6.out.trans (hbc.mono HB_w6.out.size)
  have HP_w8 : Hid (Bk w8 w.heap.size 26 #[.int .i64 n, .int .i64 s, vi, vh, vs, .int .i64 z]) := HP_w6.out.below hbc
  have HS_w8 : Hid (By.LowI w3.heap.size w8 xs r) := HS_w6.out.below (hbc.mono (by omega))
  have HR_w8 : Hid (MdF (fun k => w3.heap.size ≤ k ∧ k < w4.heap.size) w8 (.agg #[.int .i64 m.n, .int .i64 m.s, .slice aui m.i.length cui, .slice auh m.h.length cuh, .slice aue m.e.length cue, .int .i64 m.z]) m) := HR_w6.out.below hbc
  have HX0_w8 : Hid (Bk w8 w4.heap.size 34 #[.int .i64 m.n, .int .i64 m.s, .slice aui m.i.length cui, .slice auh m.h.length cuh, .slice aue m.e.length cue, .int .i64 m.z]) := HX0_w6.out.below hbc
  have HG_w8 : Hid (By.OwnI Vw4.heap.size w8 xg r) := HG_w6.out.below hbc
  clear HB_w6 HP_w6 HS_w6 HR_w6 HX0_w6 HG_w6
  clear hbc hr2 hbw7 hzw7 hbw8 hzw8 hzz hzy
  have r0 := HX0_w8.out.cell (i := 0) rfl
  have r1 := HX0_w8.out.cell (i := 1) rfl
  have r2 := HX0_w8.out.cell (i := 2) rfl
  have r3 := HX0_w8.out.cell (i := 3) rfl
  have r4 := HX0_w8.out.cell (i := 4) rfl
  have r5 := HX0_w8.out.cell (i := 5) rfl
  go_wp2_with fail
  clear r0 r1 r2 r3 r4 r5
  have hc0 : w4.heap.size < w8.heap.size := HX0_w8.out.lt
  have hc1 : Vw4.heap.size ≤ w8.heap.size := by omega
  refine (markModel_any HSM.out HR_w8.out (fun k e => by omega)).mono ?_
  rintro e w9 ⟨rfl, _, ht⟩
  have z_w9 : w8.heap.size ≤ w9.heap.size := ht.size
  have hbx : Below w3.heap.size w8 w9 := ht.to_below (fun k e => by omega) (by omega)
  have HB_w9 : Hid (Below w.heap.size w w9) := HB_w8.out.trans (hbx.mono (by omega))
  have HS_w9 : Hid (By.LowI w3.heap.size w9 xs r) := HS_w8.out.below hbx
  have HG_w9 : Hid (By.OwnI Vw4.heap.size w9 xg r) := HG_w8.out.turns ht (fun k e => by omega)
  have HP_w9 : Hid (Bk w9 w.heap.size 26 #[.int .i64 n, .int .i64 s, vi, vh, vs, .int .i64 z]) := HP_w8.out.turns ht (fun e => by omega)
  have hkn : ¬ (markNo m < 0) := by have := markNo_pos m; omega
  clear ht hbx HB_w8 HS_w8 HG_w8 HP_w8 HR_w8 HX0_w8
  go_wp2_with fail
  refine (By.eqI_same _ _ r _ (by omega) HG_w9.out.isI HS_w9.out.isI).mono ?_
  rintro e w10 ⟨rfl, hb⟩
  have z_w10 : w9.heap.size ≤ w10.heap.size := hb.size
  have HB_w10 : Hid (Below w.heap.size w w10) := HB_w9.out.trans (hb.mono HB_w9.out.size)
  have HP_w10 : Hid (Bk w10 w.heap.size 26 #[.int .i64 n, .int .i64 s, vi, vh, vs, .int .i64 z]) := HP_w9.out.below hb
  have HS_w10 : Hid (By.LowI w3.heap.size w10 xs r) := HS_w9.out.below (hb.mono (by omega))
  have HG_w10 : Hid (By.OwnI Vw4.heap.size w10 xg r) := HG_w9.out.below hb
  clear HB_w9 HP_w9 HS_w9 HG_w9
  clear hb
  go_wp2_with fail
  refine (By.markI_own HG_w10.out (by omega)).mono ?_
  rintro e w11 ⟨mm, hm, rfl, hh, ht⟩
  have hbt : Below Vw4.heap.size w10 w11 := ht.below (by omega)
  have z_w11 : w10.heap.size ≤ w11.heap.size := hbt.size
  have hmn : ¬ (mm < 0) := by omega
  have HB_w11 : Hid (Below w.heap.size w w11) := HB_w10.out.trans (hbt.mono (by omega))
  have HS_w11 : Hid (By.LowI w3.heap.size w11 xs r) := HS_w10.out.below (hbt.mono (by omega))
  have HP_w11 : Hid (Bk w11 w.heap.size 26 #[.int .i64 n, .int .i64 s, vi, vh, vs, .int .i64 z]) := HP_w10.out.keep hbt (by omega)
  have HH_w11 : Hid (By.HeldI w11 xg mm) := hh
  clear hh ht hbt HB_w10 HS_w10 HG_w10 HP_w10
  go_wp2_with fail
  refine (By.heldI_in HH_w11.out).mono ?_
  rintro e w' ⟨rfl, hw⟩
  have hw' := hw.symm
  clear hw
  subst hw'
  have p0 := HP_w11.out.cell (i := 0) rfl
  have p1 := HP_w11.out.cell (i := 1) rfl
  have p2 := HP_w11.out.cell (i := 2) rfl
  have p3 := HP_w11.out.cell (i := 3) rfl
  have p4 := HP_w11.out.cell (i := 4) rfl
  have p5 := HP_w11.out.cell (i := 5) rfl
  go_wp2_with fail
  clear p0 p1 p2 p3 p4 p5
  refine (toModel_any _ m _ HSM.out (HX.out.below HB_w11.out)).mono ?_
  rintro e w12 ⟨y3, rfl, hb, hr⟩
  have HT_w12 : Hid (MdF (fun k => w11.heap.size ≤ k ∧ k < w12.heap.size) w12 y3 m) := hr
  have z_w12 : w11.heap.size ≤ w12.heap.size := hb.size
  have HB_w12 : Hid (Below w.heap.size w w12) := HB_w11.out.trans (hb.mono HB_w11.out.size)
  have HP_w12 : Hid (Bk w12 w.heap.size 26 #[.int .i64 n, .int .i64 s, vi, vh, vs, .int .i64 z]) := HP_w11.out.below hb
  have HS_w12 : Hid (By.LowI w3.heap.size w12 xs r) := HS_w11.out.below (hb.mono (by omega))
  have HH_w12 : Hid (By.HeldI w12 xg mm) := HH_w11.out.below hb
  clear HB_w11 HP_w11 HS_w11 HH_w11
  clear hb hr
  go_wp2_with fail
  refine (HIM.out _ _ HT_w12.out.isM).mono ?_
  rintro e w13 ⟨xh, rfl, ho, hb⟩
  have HK_w13 : Hid (By.IsI w13 xh r) := ho.isI
  have z_w13 : w12.heap.size ≤ w13.heap.size := hb.size
  have HB_w13 : Hid (Below w.heap.size w w13) := HB_w12.out.trans (hb.mono HB_w12.out.size)
  have HP_w13 : Hid (Bk w13 w.heap.size 26 #[.int .i64 n, .int .i64 s, vi, vh, vs, .int .i64 z]) := HP_w12.out.below hb
  have HS_w13 : Hid (By.LowI w3.heap.size w13 xs r) := HS_w12.out.below (hb.mono (by omega))
  have HH_w13 : Hid (By.HeldI w13 xg mm) := HH_w12.out.below hb
  clear HB_w12 HP_w12 HS_w12 HH_w12 HT_w12
  clear hb ho HIM
  go_wp2_with fail
  refine (By.eqI_same _ _ r _ (by omega) HK_w13.out HS_w13.out.isI).mono ?_
  rintro e w14 ⟨rfl, hb⟩
  have z_w14 : w13.heap.size ≤ w14.heap.size := hb.size
  have HB_w14 : Hid (Below w.heap.size w w14) := HB_w13.out.trans (hb.mono HB_w13.out.size)
  have HP_w14 : Hid (Bk w14 w.heap.size 26 #[.int .i64 n, .int .i64 s, vi, vh, vs, .int .i64 z]) := HP_w13.out.below hb
  have HS_w14 : Hid (By.LowI w3.heap.size w14 xs r) := HS_w13.out.below (hb.mono (by omega))
  have HH_w14 : Hid (By.HeldI w14 xg mm) := HH_w13.out.below hb
  clear HB_w13 HP_w13 HS_w13 HH_w13
  clear hb
  clear HK_w13
  go_wp2_with fail
  refine (By.heldI_in HH_w14.out).mono ?_
  rintro e w' ⟨rfl, hw⟩
  have hw' := hw.symm
  clear hw
  subst hw'
  go_wp2
  go_ret
  exact ⟨rfl, HB_w14.out⟩

set_option maxRecDepth 100000 in
theorem lifted (os : Os) (started : os.Started) (H : Type) (enc : TypeId × Value → H) :
    ReturnsInHanded {} Try.checked os 5 .any (Rows.fnExactModelBytesSpec.pre6 enc Try.prog Try.f5 Rows.fnExactModelBytesRow.domain false) (Rows.fnExactModelBytesSpec.post enc Try.prog Try.f5 false true false false) := by
  refine returnsInHanded_of_change (C := Try.checked) own started (by kernel_rfl) Try.func5
    (ChangeSpec.witness6 (enc := enc) (C := Try.checked) false ⟨#[], #[.agg #[.int .i64 0, .int .i64 0, .slice none 0 0, .slice none 0 0, .slice none 0 0, .int .i64 0]], []⟩ 8 (by kernel_rfl) (by kernel_rfl) (by kernel_rfl) (by kernel_rfl)) ?_
  intro W base args ds gs before hval0 hW hcnd _
  have hval : ∀ (j : Nat) t v, Try.f5.params[j]? = some t → args[j]? = some v → Value.okWide Try.prog W .any base t v := hval0
  have hW' := hW
  obtain ⟨p, q, hA0, hV, rfl, hfz, hnd⟩ := hW
  have hA : DataW.TrodAll enc Try.prog W 0 (fun _ => true) true Try.f5.params.toList args.toList ds p := hA0
  rw [Try.params5] at hA hval
  obtain ⟨v0, vs0, d0, ds0, p0, q0, hargs, rfl, rfl, h0, r0⟩ := trodAll_cons hA
  obtain ⟨rfl, rfl, rfl⟩ := trodAll_nil r0
  obtain rfl : args = #[v0] := by cases args; simp_all
  obtain ⟨rfl, rfl⟩ := trodVars_none hV
  have kk0 := h0
  have lt0 : ∀ x ∈ p0, x.block < W.heap.size := by obtain ⟨m, hm⟩ := kk0; exact DataW.trod_lt m _ _ _ hm
  obtain ⟨l0, g0⟩ := open_model (hval 0 26 v0 rfl rfl) h0
  clear hA0 hval0
  refine (walk v0 l0 W g0).mono fun e W' ⟨he, bel⟩ => ?_
  subst he
  exact ⟨_, rfl, _, _, _, [], _, [], hW', trodAll_mk1 (shut_bool Try.underlying4 _), (trodAll_cons_mk (Below.trod laidOut (by kernel_rfl) (of_decide_eq_true (by kernel_rfl)) kk0 bel lt0) trodAll_mk0), rfl, bel.frame _, fun h => by cases h⟩

theorem over : Rows.fnExactModelBytesRow.holds Try.pinned (OpenSpec.ofChange Rows.fnExactModelBytesSpec) :=
  OpenClaim.holds_of_wide 5 Try.f5 rfl rfl rfl rfl rfl rfl rfl ⟨rfl, rfl, rfl, rfl, rfl⟩ rfl rfl rfl rfl rfl (by kernel_rfl) Try.func5 (by kernel_rfl)
    (of_decide_eq_true (by kernel_rfl)) (by unfold Func.isWrapper; first | (rw [if_pos (by decide +kernel)]; kernel_rfl) | (rw [if_neg (by decide +kernel)]; exact ⟨rfl, rfl⟩))
    (fun os started H enc _ => lifted os started H enc)
end Go.Proofs.Ythjabkfnmcodbaa.LawExactModelBytes
namespace Go.Proofs.Ythjabkfnmcodbaa
theorem modelBytes_holds : Rows.FnExactModelBytesSaid := LawExactModelBytes.over
#print axioms modelBytes_holds
end Go.Proofs.Ythjabkfnmcodbaa
