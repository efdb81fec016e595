/- LawGoneW -/
import Derived.Test.YtnlhcdchmgfipaaGreatExactGoneG01
import Derived.Test.YtnlhcdchmgfipaaGreatExactWorldOkG44
import Derived.Test.YtnlhcdchmgfipaaGreatExactWorldOkG46
import Derived.Deep.RegionHeld3
/- The walk of FnExactGone. -/
namespace Go.Proofs.YtnlhcdchmgfipaaGreat.LawExactGone
open Go.ChangeShapes Go.WideShapes Go.ChangeAt Go.RowKit Go.Proofs.YtnlhcdchmgfipaaGreat
set_option maxRecDepth 100000 in
set_option maxHeartbeats 16000000 in
theorem walk (x : Value) (v : Wd) (w : World) (hx : IsW w x v) :
  Calls Tryz.prog 11 #[x] w fun e w' => e = .returned (.bool true) ∧ Below w.heap.size w w' := by
 have HX : Hid (IsW w x v) := hx
 obtain ⟨vi, vh, vs, uk, uc, rfl, _⟩ := hx
 obtain ⟨W0, hW0⟩ : ∃ W0, w.alloc (.cells #[.int .i64 v.m.n, .int .i64 v.m.s, vi, vh, vs, .int .i64 v.m.z, uk, uc] 55) = W0 := ⟨_, rfl⟩
 have HB_W0 : Hid (Below w.heap.size w W0) := by rw [← hW0]; exact (Below.refl _ w).alloc (Nat.le_refl _) _
 have HP_W0 : Hid (Bk W0 w.heap.size 55 #[.int .i64 v.m.n, .int .i64 v.m.s, vi, vh, vs, .int .i64 v.m.z, uk, uc]) := by rw [← hW0]; exact Bk.new w _ _
 have p0 := HP_W0.out.cell (i := 0) rfl
 have p1 := HP_W0.out.cell (i := 1) rfl
 have p2 := HP_W0.out.cell (i := 2) rfl
 have p3 := HP_W0.out.cell (i := 3) rfl
 have p4 := HP_W0.out.cell (i := 4) rfl
 have p5 := HP_W0.out.cell (i := 5) rfl
 have p6 := HP_W0.out.cell (i := 6) rfl
 have p7 := HP_W0.out.cell (i := 7) rfl
 have hP0 : w.heap.size < W0.heap.size := HP_W0.out.lt
 go_enter Tryz.func11, Tryz.ntmps11
 go_wp2_with fail
 clear hW0 p0 p1 p2 p3 p4 p5 p6 p7
 refine (szWorld_any _ v _ (HX.out.under HB_W0.out)).mono ?_
 rintro e w1 ⟨⟨r, rfl, hr⟩, hb⟩
 have z_w1 : W0.heap.size ≤ w1.heap.size := hb.size
 have HB_w1 : Hid (Below w.heap.size w w1) := HB_W0.out.trans (hb.mono HB_W0.out.size)
 have HP_w1 : Hid (Bk w1 w.heap.size 55 #[.int .i64 v.m.n, .int .i64 v.m.s, vi, vh, vs, .int .i64 v.m.z, uk, uc]) := HP_W0.out.below hb
 clear HB_W0 HP_W0 hb
 rcases hr with rfl | ⟨hr0, hr9⟩
 case inl =>
  go_wp2
  go_ret
  exact ⟨rfl, HB_w1.out⟩
 have hr1 : ¬ (r < 0) := by omega
 have HSM : Hid (SmallWd v) := hr9
 clear hr0 hr9
 have p0 := HP_w1.out.cell (i := 0) rfl
 have p1 := HP_w1.out.cell (i := 1) rfl
 have p2 := HP_w1.out.cell (i := 2) rfl
 have p3 := HP_w1.out.cell (i := 3) rfl
 have p4 := HP_w1.out.cell (i := 4) rfl
 have p5 := HP_w1.out.cell (i := 5) rfl
 have p6 := HP_w1.out.cell (i := 6) rfl
 have p7 := HP_w1.out.cell (i := 7) rfl
 go_wp2_with fail
 clear p0 p1 p2 p3 p4 p5 p6 p7
 refine (toWorld_any _ v _ HSM.out (HX.out.under HB_w1.out)).mono ?_
 rintro e w2 ⟨y0, rfl, hb, hr⟩
 have z_w2 : w1.heap.size ≤ w2.heap.size := hb.size
 have HB_w2 : Hid (Below w.heap.size w w2) := HB_w1.out.trans (hb.mono HB_w1.out.size)
 have HP_w2 : Hid (Bk w2 w.heap.size 55 #[.int .i64 v.m.n, .int .i64 v.m.s, vi, vh, vs, .int .i64 v.m.z, uk, uc]) := HP_w1.out.below hb
 clear HB_w1 HP_w1
 have HT_w2 : Hid (IsW w2 y0 v) := hr
 clear hb hr
 go_wp2_with fail
 refine (sGone _ v _ HSM.out HT_w2.out).mono ?_
 rintro e w3 ⟨rfl, hb⟩
 have z_w3 : w2.heap.size ≤ w3.heap.size := hb.size
 have HB_w3 : Hid (Below w.heap.size w w3) := HB_w2.out.trans (hb.mono HB_w2.out.size)
 have HP_w3 : Hid (Bk w3 w.heap.size 55 #[.int .i64 v.m.n, .int .i64 v.m.s, vi, vh, vs, .int .i64 v.m.z, uk, uc]) := HP_w2.out.below hb
 clear HB_w2 HP_w2
 clear hb HT_w2
 have p0 := HP_w3.out.cell (i := 0) rfl
 have p1 := HP_w3.out.cell (i := 1) rfl
 have p2 := HP_w3.out.cell (i := 2) rfl
 have p3 := HP_w3.out.cell (i := 3) rfl
 have p4 := HP_w3.out.cell (i := 4) rfl
 have p5 := HP_w3.out.cell (i := 5) rfl
 have p6 := HP_w3.out.cell (i := 6) rfl
 have p7 := HP_w3.out.cell (i := 7) rfl
 go_wp2_with fail
 clear p0 p1 p2 p3 p4 p5 p6 p7
 refine (toWorld_any _ v _ HSM.out (HX.out.under HB_w3.out)).mono ?_
 rintro e w4 ⟨y1, rfl, hb, hr⟩
 have z_w4 : w3.heap.size ≤ w4.heap.size := hb.size
 have HB_w4 : Hid (Below w.heap.size w w4) := HB_w3.out.trans (hb.mono HB_w3.out.size)
 have HP_w4 : Hid (Bk w4 w.heap.size 55 #[.int .i64 v.m.n, .int .i64 v.m.s, vi, vh, vs, .int .i64 v.m.z, uk, uc]) := HP_w3.out.below hb
 clear HB_w3 HP_w3
 have HR_w4 : Hid (IsW w4 y1 v) := hr
 clear hb hr
 obtain ⟨ai, ci, ah, ch, ae, ce, ak, ck, ac, cc, rfl, _⟩ := HR_w4.out.form
 obtain ⟨Vw4, hVw4⟩ : ∃ V, w4.alloc (.cells #[.int .i64 v.m.n, .int .i64 v.m.s, .slice ai v.m.i.length ci, .slice ah v.m.h.length ch, .slice ae v.m.e.length ce, .int .i64 v.m.z, .slice ak v.k.length ck, .slice ac v.c.length cc] 60) = V := ⟨_, rfl⟩
 have BHX0 : Bk Vw4 w4.heap.size 60 #[.int .i64 v.m.n, .int .i64 v.m.s, .slice ai v.m.i.length ci, .slice ah v.m.h.length ch, .slice ae v.m.e.length ce, .int .i64 v.m.z, .slice ak v.k.length ck, .slice ac v.c.length cc] := by rw [← hVw4]; exact Bk.new _ _ _
 have hb : Below w4.heap.size w4 Vw4 := by rw [← hVw4]; exact (Below.refl _ _).alloc (Nat.le_refl _) _
 have y_Vw4 : w4.heap.size < Vw4.heap.size := BHX0.lt
 have z_Vw4 : w4.heap.size ≤ Vw4.heap.size := hb.size
 have HB_Vw4 : Hid (Below w.heap.size w Vw4) := HB_w4.out.trans (hb.mono HB_w4.out.size)
 have HP_Vw4 : Hid (Bk Vw4 w.heap.size 55 #[.int .i64 v.m.n, .int .i64 v.m.s, vi, vh, vs, .int .i64 v.m.z, uk, uc]) := HP_w4.out.below hb
 have HR_Vw4 : Hid (IsW Vw4 (.agg #[.int .i64 v.m.n, .int .i64 v.m.s, .slice ai v.m.i.length ci, .slice ah v.m.h.length ch, .slice ae v.m.e.length ce, .int .i64 v.m.z, .slice ak v.k.length ck, .slice ac v.c.length cc]) v) := HR_w4.out.under hb
 clear HB_w4 HP_w4 HR_w4
 have HX0_Vw4 : Hid (Bk Vw4 w4.heap.size 60 #[.int .i64 v.m.n, .int .i64 v.m.s, .slice ai v.m.i.length ci, .slice ah v.m.h.length ch, .slice ae v.m.e.length ce, .int .i64 v.m.z, .slice ak v.k.length ck, .slice ac v.c.length cc]) := BHX0
 clear hb BHX0
 have r0 := HX0_Vw4.out.cell (i := 0) rfl
 have r1 := HX0_Vw4.out.cell (i := 1) rfl
 have r2 := HX0_Vw4.out.cell (i := 2) rfl
 have r3 := HX0_Vw4.out.cell (i := 3) rfl
 have r4 := HX0_Vw4.out.cell (i := 4) rfl
 have r5 := HX0_Vw4.out.cell (i := 5) rfl
 have r6 := HX0_Vw4.out.cell (i := 6) rfl
 have r7 := HX0_Vw4.out.cell (i := 7) rfl
 go_wp2_with fail
 clear hVw4 r0 r1 r2 r3 r4 r5 r6 r7
 refine (iGone _ v _ HSM.out HR_Vw4.out).mono ?_
 rintro e w5 ⟨rfl, hb⟩
 have z_w5 : Vw4.heap.size ≤ w5.heap.size := hb.size
 have HB_w5 : Hid (Below w.heap.size w w5) := HB_Vw4.out.trans (hb.mono HB_Vw4.out.size)
 have HP_w5 : Hid (Bk w5 w.heap.size 55 #[.int .i64 v.m.n, .int .i64 v.m.s, vi, vh, vs, .int .i64 v.m.z, uk, uc]) := HP_Vw4.out.below hb
 have HR_w5 : Hid (IsW w5 (.agg #[.int .i64 v.m.n, .int .i64 v.m.s, .slice ai v.m.i.length ci, .slice ah v.m.h.length ch, .slice ae v.m.e.length ce, .int .i64 v.m.z, .slice ak v.k.length ck, .slice ac v.c.length cc]) v) := HR_Vw4.out.under hb
 have HX0_w5 : Hid (Bk w5 w4.heap.size 60 #[.int .i64 v.m.n, .int .i64 v.m.s, .slice ai v.m.i.length ci, .slice ah v.m.h.length ch, .slice ae v.m.e.length ce, .int .i64 v.m.z, .slice ak v.k.length ck, .slice ac v.c.length cc]) := HX0_Vw4.out.below hb
 clear HB_Vw4 HP_Vw4 HR_Vw4 HX0_Vw4
 clear hb
 have p0 := HP_w5.out.cell (i := 0) rfl
 have p1 := HP_w5.out.cell (i := 1) rfl
 have p2 := HP_w5.out.cell (i := 2) rfl
 have p3 := HP_w5.out.cell (i := 3) rfl
 have p4 := HP_w5.out.cell (i := 4) rfl
 have p5 := HP_w5.out.cell (i := 5) rfl
 have p6 := HP_w5.out.cell (i := 6) rfl
 have p7 := HP_w5.out.cell (i := 7) rfl
 have r0 := HX0_w5.out.cell (i := 0) rfl
 have r1 := HX0_w5.out.cell (i := 1) rfl
 have r2 := HX0_w5.out.cell (i := 2) rfl
 have r3 := HX0_w5.out.cell (i := 3) rfl
 have r4 := HX0_w5.out.cell (i := 4) rfl
 have r5 := HX0_w5.out.cell (i := 5) rfl
 have r6 := HX0_w5.out.cell (i := 6) rfl
 have r7 := HX0_w5.out.cell (i := 7) rfl
 go_wp2_with fail
 have hzz : w.heap.size < w5.heap.size := by omega
 have hzy : w4.heap.size < w5.heap.size := by omega
 go_region_held3 (fun W => W.cell? ⟨w.heap.size, 0, none⟩ = some (.int .i64 v.m.n) ∧ W.cell? ⟨w.heap.size, 1, none⟩ = some (.int .i64 v.m.s) ∧ W.cell? ⟨w.heap.size, 2, none⟩ = some (vi) ∧ W.cell? ⟨w.heap.size, 3, none⟩ = some (vh) ∧ W.cell? ⟨w.heap.size, 4, none⟩ = some (vs) ∧ W.cell? ⟨w.heap.size, 5, none⟩ = some (.int .i64 v.m.z) ∧ W.cell? ⟨w.heap.size, 6, none⟩ = some (uk) ∧ W.cell? ⟨w.heap.size, 7, none⟩ = some (uc) ∧ W.cell? ⟨w4.heap.size, 0, none⟩ = some (.int .i64 v.m.n) ∧ W.cell? ⟨w4.heap.size, 1, none⟩ = some (.int .i64 v.m.s) ∧ W.cell? ⟨w4.heap.size, 2, none⟩ = some (.slice ai v.m.i.length ci) ∧ W.cell? ⟨w4.heap.size, 3, none⟩ = some (.slice ah v.m.h.length ch) ∧ W.cell? ⟨w4.heap.size, 4, none⟩ = some (.slice ae v.m.e.length ce) ∧ W.cell? ⟨w4.heap.size, 5, none⟩ = some (.int .i64 v.m.z) ∧ W.cell? ⟨w4.heap.size, 6, none⟩ = some (.slice ak v.k.length ck) ∧ W.cell? ⟨w4.heap.size, 7, none⟩ = some (.slice ac v.c.length cc)) ((repeat' apply And.intro) <;> first | (go_keep; done) | (rw [hcA _ _ (by first | omega | (simp; omega))]; simp [*]; done))
  (first | (go_at_call 27; refine (toWorld_any _ v _ HSM.out (HX.out.under HB_w5.out.drew)).mono ?_; rintro e w7 ⟨y2, rfl, hbw7, hr2⟩; obtain ⟨hcA, hfA⟩ := bcell hbw7; have hzw7 : w5.heap.size ≤ w7.heap.size := hbw7.size) | (go_at_call 29; refine (eqWorld_same _ _ v _ HSM.out (HR_w5.out.under ((Below.refl _ w5).drew.trans hbw7)) hr2).mono ?_; rintro e w8 ⟨rfl, hbw8⟩; obtain ⟨hcA, hfA⟩ := bcell hbw8; have hzw8 : w7.heap.size ≤ w8.heap.size := hbw8.size))
 clear hcA hfA
 have hbc : Below w5.heap.size w5 w8 := ((Below.refl w5.heap.size w5).drew.trans (hbw7.mono (Nat.le_refl _))).trans (hbw8.mono (by omega))
 clear p0 p1 p2 p3 p4 p5 p6 p7 r0 r1 r2 r3 r4 r5 r6 r7
 have HB_w8 : Hid (Below w.heap.size w w8) := HB_w5.out.trans (hbc.mono HB_w5.out.size)
 clear hbc hr2 hbw7 hzw7 hbw8 hzw8 hzz hzy
 go_wp2
 go_ret
 exact ⟨rfl, HB_w8.out⟩
end Go.Proofs.YtnlhcdchmgfipaaGreat.LawExactGone
