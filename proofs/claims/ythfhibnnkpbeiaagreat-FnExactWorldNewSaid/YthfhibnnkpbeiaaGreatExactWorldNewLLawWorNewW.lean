/- At every model the program's WorldNew answers as the specification's, its answer owns its memory, and it writes into nothing that it is given; no condition. -/
import Derived.Test.YthfhibnnkpbeiaaGreatExactWorldNewG01
import Derived.Test.YthfhibnnkpbeiaaGreatExactWorldNewG38
import Derived.Test.YthfhibnnkpbeiaaGreatExactWorldNewLWNi
import Derived.Test.YthfhibnnkpbeiaaGreatExactWorldNewG32
import Derived.Test.YthfhibnnkpbeiaaGreatExactWorldNewG46
import Derived.Test.YthfhibnnkpbeiaaGreatExactWorldNewG05
import Derived.Deep.Cut
namespace Go.Proofs.YthfhibnnkpbeiaaGreat.LawExactWorldNew
open Go.ChangeShapes Go.WideShapes Go.ChangeAt Go.RowKit Go.Proofs.YthfhibnnkpbeiaaGreat
theorem hidLawWorNewW {p : Prop} (h : p) : Hid p := h
theorem newPs_wt' {m : Md} (h : m.ok = true) : (partsD (newPs m m.n.toNat)).wt ≤ 5000 := by
 obtain ⟨_, _, hn4, he6⟩ := ok_lps h
 rw [partsD_wt, newPs_len]
 have h1 : sumL (fun i => (paAt (newPs m m.n.toNat) i).wt) m.n.toNat ≤ sumL (fun _ => 1000) m.n.toNat := sumL_le (fun j hj => by rw [newPs_at m hj]; exact newP_wt he6)
 have h2 : ∀ n, sumL (fun _ => 1000) n = n * 1000 := by
  intro n
  induction n with
  | zero => rfl
  | succ n ih => simp only [sumL, ih]; omega
 rw [h2] at h1
 omega
theorem hs_small {l : List (List O)} (h4 : l.length ≤ 4) (h8 : ∀ j, (hAt l j).length ≤ 8) : (hsD l).wt ≤ 36 := by
 rw [hsD_wt]
 have h1 : sumL (fun i => (opsD (hAt l i)).wt) l.length ≤ sumL (fun _ => 8) l.length := sumL_le (fun j _ => by have h2 : (opsD (hAt l j)).wt = (hAt l j).length := ops_wt _; have := h8 j; omega)
 have h2 : ∀ n, sumL (fun _ => 8) n = n * 8 := by
  intro n
  induction n with
  | zero => rfl
  | succ n ih => simp only [sumL, ih]; omega
 rw [h2] at h1
 omega
theorem world_small {m : Md} (hm : SmallM m) : SmallWd (worldA m) ∧ TinyW (worldA m) := by
 cases hk : wOk m
 case false =>
  rw [world_no hk]
  have e1 : (knsD ([] : List Kn)).wt = 0 := by rw [knsD_wt]; rfl
  have e2 : (vecsD ([] : List (List Int))).wt = 0 := by rw [vecs_wt]; rfl
  have hm0 : SmallM (⟨0, 0, [], [], [], 0⟩ : Md) := ⟨Nat.zero_le _, Nat.zero_le _, fun i => by simp [hAt], Nat.zero_le _, Nat.zero_le _⟩
  exact ⟨⟨hm0, ⟨Nat.zero_le _, fun i hi => absurd hi (Nat.not_lt_zero _)⟩, by show (vecsD ([] : List (List Int))).wt ≤ _; omega⟩, ⟨hm0, by show (knsD ([] : List Kn)).wt ≤ _; omega, by show (vecsD ([] : List (List Int))).wt ≤ _; omega⟩⟩
 case true =>
  rw [world_yes hk]
  have hok : m.ok = true := hk
  have h1 := newPs_wt' hok
  have e2 : (vecsD ([] : List (List Int))).wt = 0 := by rw [vecs_wt]; rfl
  have hsk : SmallK (newK m none4) := ⟨hm, by unfold Kn.wt; rw [ints_wt, mails_wt, evs_wt, ems_wt]; simp only [newK, List.length_nil]; show none4.length + _ + 0 + 0 + 0 ≤ _; simp only [none4, List.length_cons, List.length_nil]; omega⟩
  have hwd : (knsD [newK m none4]).wt ≤ 10000 := by
   rw [knsD_wt]
   obtain ⟨h4, h5, h6⟩ := small3 hok
   have h7 := hs_small h5 (fun j => rows8 hok j)
   show 1 + (0 + (newK m none4).wd) ≤ _
   unfold Kn.wd
   rw [ints_wt, evs_wt, ints_wt, mails_wt, evs_wt, ems_wt]
   show 1 + (0 + (m.i.length + (hsD m.h).wt + m.e.length + none4.length + (partsD (newPs m m.n.toNat)).wt + 0 + 0 + 0)) ≤ _
   simp only [none4, List.length_cons, List.length_nil]
   omega
  exact ⟨⟨hm, ⟨by show 1 ≤ _; omega, fun i hi => by
   obtain rfl : i = 0 := by have : i < 1 := hi; omega
   exact hsk⟩, by show (vecsD ([] : List (List Int))).wt ≤ _; omega⟩, ⟨hm, by show (knsD [newK m none4]).wt ≤ _; omega, by show (vecsD ([] : List (List Int))).wt ≤ _; omega⟩⟩
set_option maxRecDepth 100000 in
set_option maxHeartbeats 64000000 in
theorem walk (x : Value) (m : Md) (w : World) (hx : IsM w x m) :
  Calls Tryz.prog 4 #[x] w fun e w' => e = .returned (.bool true) ∧ Below w.heap.size w w' := by
 have HX : Hid (IsM w x m) := hx
 obtain ⟨vi0, vh0, vs0, rfl, _⟩ := hx
 obtain ⟨W0, hW0⟩ : ∃ W0, w.alloc (.cells #[.int .i64 m.n, .int .i64 m.s, vi0, vh0, vs0, .int .i64 m.z] 26) = W0 := ⟨_, rfl⟩
 have HB_W0 : Hid (Below w.heap.size w W0) := by rw [← hW0]; exact (Below.refl _ w).alloc (Nat.le_refl _) _
 have HP_W0 : Hid (Bk W0 w.heap.size 26 #[.int .i64 m.n, .int .i64 m.s, vi0, vh0, vs0, .int .i64 m.z]) := by rw [← hW0]; exact Bk.new w _ _
 have hV0 : w.heap.size < W0.heap.size := HP_W0.out.lt
 obtain ⟨p0, p1, p2, p3, p4, p5⟩ := c6_6 HP_W0.out
 go_enter Tryz.func4, Tryz.ntmps4
 go_wp2_with fail
 clear hW0
 clear p0 p1 p2 p3 p4 p5
 refine (szModel_any _ m _ (HX.out.below HB_W0.out)).mono ?_
 rintro r w1 ⟨⟨r1, rfl, hr⟩, hb⟩
 have z_w1 : W0.heap.size ≤ w1.heap.size := hb.size
 have HB_w1 := hidLawWorNewW (HB_W0.out.trans (hb.mono HB_W0.out.size))
 have HP_w1 := hidLawWorNewW (HP_W0.out.below hb)
 clear HB_W0 HP_W0
 clear hb
 rcases hr with rfl | ⟨hr0, hsm⟩
 case inl =>
  go_wp2
  go_ret
  exact ⟨rfl, HB_w1.out⟩
 have hr1 : ¬ (r1 < 0) := by omega
 have HSM : Hid (SmallM m) := hsm
 clear hsm
 have HC : Hid (∃ R b, (SmallWd R ∧ TinyW R) ∧ (∀ (v0 : Value) (W : World), IsM W v0 m → Calls Tryz.prog 17 #[v0] W fun r w' => ∃ u, r = .returned (.tuple #[u, .bool b]) ∧ Below W.heap.size W w' ∧ WorF (fun k => W.heap.size ≤ k ∧ k < w'.heap.size) w' u R) ∧ (∀ (v0 : Value) (W : World), IsM W v0 m → Calls Tryz.prog 18 #[v0] W fun r w' => ∃ u, r = .returned (.tuple #[u, .bool b]) ∧ Below W.heap.size W w' ∧ WorF (fun k => W.heap.size ≤ k ∧ k < w'.heap.size) w' u R)) := ⟨worldA m, wOk m, world_small HSM.out, fun v0 W h0 => sWorldNew v0 m W HSM.out h0, fun v0 W h0 => iWorldNew v0 m W HSM.out h0⟩
 obtain ⟨R, b, ⟨hq, hq2⟩, hsp, him⟩ := HC.out
 have HSP := hidLawWorNewW hsp
 have HIM := hidLawWorNewW him
 have HE : Hid (SmallWd R) := hq
 have HTK : Hid (TinyW R) := hq2
 have HMK : Hid (0 ≤ markW R) := (by have := tinyW_marks hq2; omega : 0 ≤ markW R)
 clear HC hsp him hq hq2
 obtain ⟨p0, p1, p2, p3, p4, p5⟩ := c6_6 HP_w1.out
 go_wp2_with fail
 clear p0 p1 p2 p3 p4 p5
 refine (toModel_any _ m _ HSM.out (HX.out.below HB_w1.out)).mono ?_
 rintro r w2 ⟨ya, rfl, hb, hr⟩
 have z_w2 : w1.heap.size ≤ w2.heap.size := hb.size
 have HB_w2 := hidLawWorNewW (HB_w1.out.trans (hb.mono HB_w1.out.size))
 have HP_w2 := hidLawWorNewW (HP_w1.out.below hb)
 clear HB_w1 HP_w1
 have HA_w2 := hidLawWorNewW hr
 clear hb hr
 go_wp2_with fail
 refine (HSP.out _ _ HA_w2.out.isM).mono ?_
 rintro r w3 ⟨uo, rfl, hb, hr⟩
 obtain ⟨kao, kbo, kco, kdo, keo, kfo, kgo, kho, kio, kjo, rfl⟩ := hr.form
 have z_w3 : w2.heap.size ≤ w3.heap.size := hb.size
 have HB_w3 := hidLawWorNewW (HB_w2.out.trans (hb.mono HB_w2.out.size))
 have HP_w3 := hidLawWorNewW (HP_w2.out.below hb)
 have HA_w3 := hidLawWorNewW (HA_w2.out.below hb)
 clear HB_w2 HP_w2 HA_w2
 have HS_w3 := hidLawWorNewW hr
 clear hb hr
 obtain ⟨Vw3, hVw3⟩ : ∃ V, w3.alloc (.cells #[.int .i64 R.m.n, .int .i64 R.m.s, .slice kao R.m.i.length kbo, .slice kco R.m.h.length kdo, .slice keo R.m.e.length kfo, .int .i64 R.m.z, .slice kgo R.k.length kho, .slice kio R.c.length kjo] 51) = V := ⟨_, rfl⟩
 have BHSb : Bk Vw3 w3.heap.size 51 #[.int .i64 R.m.n, .int .i64 R.m.s, .slice kao R.m.i.length kbo, .slice kco R.m.h.length kdo, .slice keo R.m.e.length kfo, .int .i64 R.m.z, .slice kgo R.k.length kho, .slice kio R.c.length kjo] := by rw [← hVw3]; exact Bk.new _ _ _
 have hb : Below w3.heap.size w3 Vw3 := by rw [← hVw3]; exact (Below.refl _ _).alloc (Nat.le_refl _) _
 have y_Vw3 : w3.heap.size < Vw3.heap.size := BHSb.lt
 have z_Vw3 : w3.heap.size ≤ Vw3.heap.size := hb.size
 have HB_Vw3 := hidLawWorNewW (HB_w3.out.trans (hb.mono HB_w3.out.size))
 have HP_Vw3 := hidLawWorNewW (HP_w3.out.below hb)
 have HA_Vw3 := hidLawWorNewW (HA_w3.out.below hb)
 have HS_Vw3 := hidLawWorNewW (HS_w3.out.below hb)
 clear HB_w3 HP_w3 HA_w3 HS_w3
 clear hb
 have HSb_Vw3 := hidLawWorNewW BHSb
 clear BHSb
 clear HA_Vw3
 clear HSP
 obtain ⟨p0, p1, p2, p3, p4, p5⟩ := c6_6 HP_Vw3.out
 go_wp2_with fail
 clear hVw3
 clear p0 p1 p2 p3 p4 p5
 refine (toModel_any _ m _ HSM.out (HX.out.below HB_Vw3.out)).mono ?_
 rintro r w4 ⟨y1, rfl, hb, hr⟩
 have z_w4 : Vw3.heap.size ≤ w4.heap.size := hb.size
 have HB_w4 := hidLawWorNewW (HB_Vw3.out.trans (hb.mono HB_Vw3.out.size))
 have HP_w4 := hidLawWorNewW (HP_Vw3.out.below hb)
 have HS_w4 := hidLawWorNewW (HS_Vw3.out.below hb)
 have HSb_w4 := hidLawWorNewW (HSb_Vw3.out.below hb)
 clear HB_Vw3 HP_Vw3 HS_Vw3 HSb_Vw3
 have HR_w4 := hidLawWorNewW hr
 clear hb hr
 obtain ⟨aui, cui, auh, cuh, aue, cue, rfl⟩ := HR_w4.out.form
 obtain ⟨Vw4, hVw4⟩ : ∃ V, w4.alloc (.cells #[.int .i64 m.n, .int .i64 m.s, .slice aui m.i.length cui, .slice auh m.h.length cuh, .slice aue m.e.length cue, .int .i64 m.z] 31) = V := ⟨_, rfl⟩
 have BHX0 : Bk Vw4 w4.heap.size 31 #[.int .i64 m.n, .int .i64 m.s, .slice aui m.i.length cui, .slice auh m.h.length cuh, .slice aue m.e.length cue, .int .i64 m.z] := by rw [← hVw4]; exact Bk.new _ _ _
 have hb : Below w4.heap.size w4 Vw4 := by rw [← hVw4]; exact (Below.refl _ _).alloc (Nat.le_refl _) _
 have y_Vw4 : w4.heap.size < Vw4.heap.size := BHX0.lt
 have z_Vw4 : w4.heap.size ≤ Vw4.heap.size := hb.size
 have HB_Vw4 := hidLawWorNewW (HB_w4.out.trans (hb.mono HB_w4.out.size))
 have HP_Vw4 := hidLawWorNewW (HP_w4.out.below hb)
 have HS_Vw4 := hidLawWorNewW (HS_w4.out.below hb)
 have HSb_Vw4 := hidLawWorNewW (HSb_w4.out.below hb)
 have HR_Vw4 := hidLawWorNewW (HR_w4.out.below hb)
 clear HB_w4 HP_w4 HS_w4 HSb_w4 HR_w4
 clear hb
 have HX0_Vw4 := hidLawWorNewW BHX0
 clear BHX0
 obtain ⟨r0, r1, r2, r3, r4, r5⟩ := c6_6 HX0_Vw4.out
 go_wp2_with fail
 clear hVw4
 refine (HIM.out _ _ HR_Vw4.out.isM).mono ?_
 rintro r w5 ⟨ug, rfl, hb, hr⟩
 obtain ⟨kag, kbg, kcg, kdg, keg, kfg, kgg, khg, kig, kjg, rfl⟩ := hr.form
 have z_w5 : Vw4.heap.size ≤ w5.heap.size := hb.size
 have HB_w5 := hidLawWorNewW (HB_Vw4.out.trans (hb.mono HB_Vw4.out.size))
 have HP_w5 := hidLawWorNewW (HP_Vw4.out.below hb)
 have HS_w5 := hidLawWorNewW (HS_Vw4.out.below hb)
 have HSb_w5 := hidLawWorNewW (HSb_Vw4.out.below hb)
 have HR_w5 := hidLawWorNewW (HR_Vw4.out.below hb)
 have HX0_w5 := hidLawWorNewW (HX0_Vw4.out.below hb)
 clear HB_Vw4 HP_Vw4 HS_Vw4 HSb_Vw4 HR_Vw4 HX0_Vw4
 have HG_w5 := hidLawWorNewW hr
 clear hb hr
 obtain ⟨Vw5, hVw5⟩ : ∃ V, w5.alloc (.cells #[.int .i64 R.m.n, .int .i64 R.m.s, .slice kag R.m.i.length kbg, .slice kcg R.m.h.length kdg, .slice keg R.m.e.length kfg, .int .i64 R.m.z, .slice kgg R.k.length khg, .slice kig R.c.length kjg] 51) = V := ⟨_, rfl⟩
 have BHGb : Bk Vw5 w5.heap.size 51 #[.int .i64 R.m.n, .int .i64 R.m.s, .slice kag R.m.i.length kbg, .slice kcg R.m.h.length kdg, .slice keg R.m.e.length kfg, .int .i64 R.m.z, .slice kgg R.k.length khg, .slice kig R.c.length kjg] := by rw [← hVw5]; exact Bk.new _ _ _
 have hb : Below w5.heap.size w5 Vw5 := by rw [← hVw5]; exact (Below.refl _ _).alloc (Nat.le_refl _) _
 have y_Vw5 : w5.heap.size < Vw5.heap.size := BHGb.lt
 have z_Vw5 : w5.heap.size ≤ Vw5.heap.size := hb.size
 have HB_Vw5 := hidLawWorNewW (HB_w5.out.trans (hb.mono HB_w5.out.size))
 have HP_Vw5 := hidLawWorNewW (HP_w5.out.below hb)
 have HS_Vw5 := hidLawWorNewW (HS_w5.out.below hb)
 have HSb_Vw5 := hidLawWorNewW (HSb_w5.out.below hb)
 have HR_Vw5 := hidLawWorNewW (HR_w5.out.below hb)
 have HX0_Vw5 := hidLawWorNewW (HX0_w5.out.below hb)
 have HG_Vw5 := hidLawWorNewW (HG_w5.out.below hb)
 clear HB_w5 HP_w5 HS_w5 HSb_w5 HR_w5 HX0_w5 HG_w5
 clear hb
 have HGb_Vw5 := hidLawWorNewW BHGb
 clear BHGb
 clear r0 r1 r2 r3 r4 r5
 obtain ⟨g0, g1, g2, g3, g4, g5, g6, g7⟩ := c8_8 HGb_Vw5.out
 obtain ⟨t0, t1, t2, t3, t4, t5, t6, t7⟩ := c8_8 HSb_Vw5.out
 go_wp2_with fail
 clear hVw5
 clear g0 g1 g2 g3 g4 g5 g6 g7
 clear t0 t1 t2 t3 t4 t5 t6 t7
 refine (eqWorld_same _ _ R _ HE.out HG_Vw5.out.is HS_Vw5.out.is).mono ?_
 rintro r w6 ⟨rfl, hb⟩
 have z_w6 : Vw5.heap.size ≤ w6.heap.size := hb.size
 have HB_w6 := hidLawWorNewW (HB_Vw5.out.trans (hb.mono HB_Vw5.out.size))
 have HP_w6 := hidLawWorNewW (HP_Vw5.out.below hb)
 have HS_w6 := hidLawWorNewW (HS_Vw5.out.below hb)
 have HSb_w6 := hidLawWorNewW (HSb_Vw5.out.below hb)
 have HR_w6 := hidLawWorNewW (HR_Vw5.out.below hb)
 have HX0_w6 := hidLawWorNewW (HX0_Vw5.out.below hb)
 have HG_w6 := hidLawWorNewW (HG_Vw5.out.below hb)
 have HGb_w6 := hidLawWorNewW (HGb_Vw5.out.below hb)
 clear HB_Vw5 HP_Vw5 HS_Vw5 HSb_Vw5 HR_Vw5 HX0_Vw5 HG_Vw5 HGb_Vw5
 clear hb
 obtain ⟨r0, r1, r2, r3, r4, r5⟩ := c6_6 HX0_w6.out
 obtain ⟨p0, p1, p2, p3, p4, p5⟩ := c6_6 HP_w6.out
 go_wp2_with fail
 go_region_held3 (fun W => W.cell? ⟨w4.heap.size, 0, none⟩ = some (.int .i64 m.n) ∧ W.cell? ⟨w4.heap.size, 1, none⟩ = some (.int .i64 m.s) ∧ W.cell? ⟨w4.heap.size, 2, none⟩ = some (.slice aui m.i.length cui) ∧ W.cell? ⟨w4.heap.size, 3, none⟩ = some (.slice auh m.h.length cuh) ∧ W.cell? ⟨w4.heap.size, 4, none⟩ = some (.slice aue m.e.length cue) ∧ W.cell? ⟨w4.heap.size, 5, none⟩ = some (.int .i64 m.z) ∧ W.cell? ⟨w.heap.size, 0, none⟩ = some (.int .i64 m.n) ∧ W.cell? ⟨w.heap.size, 1, none⟩ = some (.int .i64 m.s) ∧ W.cell? ⟨w.heap.size, 2, none⟩ = some vi0 ∧ W.cell? ⟨w.heap.size, 3, none⟩ = some vh0 ∧ W.cell? ⟨w.heap.size, 4, none⟩ = some vs0 ∧ W.cell? ⟨w.heap.size, 5, none⟩ = some (.int .i64 m.z)) ((repeat' apply And.intro) <;> first | (go_keep; done) | (rw [hcA _ _ (by first | omega | (simp; omega))]; simp [*]; done))
  (first | (go_at_call 7; refine (toModel_any _ m _ HSM.out (HX.out.below HB_w6.out.drew)).mono ?_; rintro r w7 ⟨yx, rfl, hbw7, hr2⟩; obtain ⟨hcA, hfA⟩ := bcell hbw7; have hzw7 : w6.heap.size ≤ w7.heap.size := hbw7.size) | (go_at_call 11; refine (eqModel_same _ _ m _ HSM.out (HR_w6.out.below ((Below.refl _ w6).drew.trans hbw7)).isM hr2.isM).mono ?_; rintro r w8 ⟨rfl, hbw8⟩; obtain ⟨hcA, hfA⟩ := bcell hbw8; have hzw8 : w7.heap.size ≤ w8.heap.size := hbw8.size))
 clear hcA hfA
 have hbc : Below w6.heap.size w6 w8 := ((Below.refl w6.heap.size w6).drew.trans (hbw7.mono (Nat.le_refl _))).trans (hbw8.mono (by omega))
 clear r0 r1 r2 r3 r4 r5
 clear p0 p1 p2 p3 p4 p5
 have z_w8 : w6.heap.size ≤ w8.heap.size := hbc.size
 have HB_w8 := hidLawWorNewW (HB_w6.out.trans (hbc.mono HB_w6.out.size))
 have HP_w8 := hidLawWorNewW (HP_w6.out.below hbc)
 have HS_w8 := hidLawWorNewW (HS_w6.out.below hbc)
 have HSb_w8 := hidLawWorNewW (HSb_w6.out.below hbc)
 have HR_w8 := hidLawWorNewW (HR_w6.out.below hbc)
 have HX0_w8 := hidLawWorNewW (HX0_w6.out.below hbc)
 have HG_w8 := hidLawWorNewW (HG_w6.out.below hbc)
 have HGb_w8 := hidLawWorNewW (HGb_w6.out.below hbc)
 clear HB_w6 HP_w6 HS_w6 HSb_w6 HR_w6 HX0_w6 HG_w6 HGb_w6
 clear hbc hr2 hbw7 hzw7 hbw8 hzw8
 obtain ⟨r0, r1, r2, r3, r4, r5⟩ := c6_6 HX0_w8.out
 go_wp2_with fail
 clear r0 r1 r2 r3 r4 r5
 refine (markModel_any HSM.out HR_w8.out (fun k e => by omega)).mono ?_
 rintro r w9 ⟨rfl, _, ht⟩
 have z_w9 : w8.heap.size ≤ w9.heap.size := ht.size
 have HB_w9 := hidLawWorNewW (HB_w8.out.trans (ht.to_below (fun k e => by omega) (by omega)))
 have HP_w9 := hidLawWorNewW (HP_w8.out.turns ht (fun e => by omega))
 have HS_w9 := hidLawWorNewW (HS_w8.out.turns ht (fun k e => by omega))
 have HSb_w9 := hidLawWorNewW (HSb_w8.out.turns ht (fun e => by omega))
 have HG_w9 := hidLawWorNewW (HG_w8.out.turns ht (fun k e => by omega))
 have HGb_w9 := hidLawWorNewW (HGb_w8.out.turns ht (fun e => by omega))
 clear HB_w8 HP_w8 HS_w8 HSb_w8 HR_w8 HX0_w8 HG_w8 HGb_w8
 clear ht
 obtain ⟨mk, hmk⟩ : ∃ mk, markNo m = mk := ⟨_, rfl⟩
 have hmk0 : 1 ≤ mk := hmk ▸ markNo_pos m
 rw [hmk]
 clear hmk
 have hkn : ¬ (mk < 0) := by omega
 obtain ⟨g0, g1, g2, g3, g4, g5, g6, g7⟩ := c8_8 HGb_w9.out
 obtain ⟨t0, t1, t2, t3, t4, t5, t6, t7⟩ := c8_8 HSb_w9.out
 go_wp2_with fail
 clear g0 g1 g2 g3 g4 g5 g6 g7
 clear t0 t1 t2 t3 t4 t5 t6 t7
 refine (eqWorld_same _ _ R _ HE.out HG_w9.out.is HS_w9.out.is).mono ?_
 rintro r w10 ⟨rfl, hb⟩
 have z_w10 : w9.heap.size ≤ w10.heap.size := hb.size
 have HB_w10 := hidLawWorNewW (HB_w9.out.trans (hb.mono HB_w9.out.size))
 have HP_w10 := hidLawWorNewW (HP_w9.out.below hb)
 have HS_w10 := hidLawWorNewW (HS_w9.out.below hb)
 have HSb_w10 := hidLawWorNewW (HSb_w9.out.below hb)
 have HG_w10 := hidLawWorNewW (HG_w9.out.below hb)
 have HGb_w10 := hidLawWorNewW (HGb_w9.out.below hb)
 clear HB_w9 HP_w9 HS_w9 HSb_w9 HG_w9 HGb_w9
 clear hb
 obtain ⟨g0, g1, g2, g3, g4, g5, g6, g7⟩ := c8_8 HGb_w10.out
 go_wp2_with fail
 clear g0 g1 g2 g3 g4 g5 g6 g7
 refine (markWorld_any HTK.out HG_w10.out (fun k e => by omega)).mono ?_
 rintro r w11 ⟨rfl, hh, ht⟩
 have z_w11 : w10.heap.size ≤ w11.heap.size := ht.size
 have HB_w11 := hidLawWorNewW (HB_w10.out.trans (ht.to_below (fun k e => by omega) (by omega)))
 have HP_w11 := hidLawWorNewW (HP_w10.out.turns ht (fun e => by omega))
 have HS_w11 := hidLawWorNewW (HS_w10.out.turns ht (fun k e => by omega))
 have HSb_w11 := hidLawWorNewW (HSb_w10.out.turns ht (fun e => by omega))
 have HGb_w11 := hidLawWorNewW (HGb_w10.out.turns ht (fun e => by omega))
 clear HB_w10 HP_w10 HS_w10 HSb_w10 HG_w10 HGb_w10
 have HH_w11 := hidLawWorNewW hh
 clear hh ht
 have hmn : ¬ (markW R < 0) := by have := HMK.out; omega
 obtain ⟨g0, g1, g2, g3, g4, g5, g6, g7⟩ := c8_8 HGb_w11.out
 go_wp2_with fail
 clear g0 g1 g2 g3 g4 g5 g6 g7
 refine (heldWorld_any HTK.out HH_w11.out).mono ?_
 rintro r w12 ⟨rfl, hb⟩
 have z_w12 : w11.heap.size ≤ w12.heap.size := hb.size
 have HB_w12 := hidLawWorNewW (HB_w11.out.trans (hb.mono HB_w11.out.size))
 have HP_w12 := hidLawWorNewW (HP_w11.out.below hb)
 have HS_w12 := hidLawWorNewW (HS_w11.out.below hb)
 have HSb_w12 := hidLawWorNewW (HSb_w11.out.below hb)
 have HGb_w12 := hidLawWorNewW (HGb_w11.out.below hb)
 have HH_w12 := hidLawWorNewW (HH_w11.out.below hb)
 clear HB_w11 HP_w11 HS_w11 HSb_w11 HGb_w11 HH_w11
 clear hb
 obtain ⟨p0, p1, p2, p3, p4, p5⟩ := c6_6 HP_w12.out
 go_wp2_with fail
 clear p0 p1 p2 p3 p4 p5
 refine (toModel_any _ m _ HSM.out (HX.out.below HB_w12.out)).mono ?_
 rintro r w13 ⟨yb, rfl, hb, hr⟩
 have z_w13 : w12.heap.size ≤ w13.heap.size := hb.size
 have HB_w13 := hidLawWorNewW (HB_w12.out.trans (hb.mono HB_w12.out.size))
 have HP_w13 := hidLawWorNewW (HP_w12.out.below hb)
 have HS_w13 := hidLawWorNewW (HS_w12.out.below hb)
 have HSb_w13 := hidLawWorNewW (HSb_w12.out.below hb)
 have HGb_w13 := hidLawWorNewW (HGb_w12.out.below hb)
 have HH_w13 := hidLawWorNewW (HH_w12.out.below hb)
 clear HB_w12 HP_w12 HS_w12 HSb_w12 HGb_w12 HH_w12
 have HA_w13 := hidLawWorNewW hr
 clear hb hr
 go_wp2_with fail
 refine (HIM.out _ _ HA_w13.out.isM).mono ?_
 rintro r w14 ⟨uk, rfl, hb, hr⟩
 obtain ⟨kak, kbk, kck, kdk, kek, kfk, kgk, khk, kik, kjk, rfl⟩ := hr.form
 have z_w14 : w13.heap.size ≤ w14.heap.size := hb.size
 have HB_w14 := hidLawWorNewW (HB_w13.out.trans (hb.mono HB_w13.out.size))
 have HP_w14 := hidLawWorNewW (HP_w13.out.below hb)
 have HS_w14 := hidLawWorNewW (HS_w13.out.below hb)
 have HSb_w14 := hidLawWorNewW (HSb_w13.out.below hb)
 have HGb_w14 := hidLawWorNewW (HGb_w13.out.below hb)
 have HH_w14 := hidLawWorNewW (HH_w13.out.below hb)
 have HA_w14 := hidLawWorNewW (HA_w13.out.below hb)
 clear HB_w13 HP_w13 HS_w13 HSb_w13 HGb_w13 HH_w13 HA_w13
 have HK_w14 := hidLawWorNewW hr
 clear hb hr
 obtain ⟨Vw14, hVw14⟩ : ∃ V, w14.alloc (.cells #[.int .i64 R.m.n, .int .i64 R.m.s, .slice kak R.m.i.length kbk, .slice kck R.m.h.length kdk, .slice kek R.m.e.length kfk, .int .i64 R.m.z, .slice kgk R.k.length khk, .slice kik R.c.length kjk] 51) = V := ⟨_, rfl⟩
 have BHKb : Bk Vw14 w14.heap.size 51 #[.int .i64 R.m.n, .int .i64 R.m.s, .slice kak R.m.i.length kbk, .slice kck R.m.h.length kdk, .slice kek R.m.e.length kfk, .int .i64 R.m.z, .slice kgk R.k.length khk, .slice kik R.c.length kjk] := by rw [← hVw14]; exact Bk.new _ _ _
 have hb : Below w14.heap.size w14 Vw14 := by rw [← hVw14]; exact (Below.refl _ _).alloc (Nat.le_refl _) _
 have y_Vw14 : w14.heap.size < Vw14.heap.size := BHKb.lt
 have z_Vw14 : w14.heap.size ≤ Vw14.heap.size := hb.size
 have HB_Vw14 := hidLawWorNewW (HB_w14.out.trans (hb.mono HB_w14.out.size))
 have HP_Vw14 := hidLawWorNewW (HP_w14.out.below hb)
 have HS_Vw14 := hidLawWorNewW (HS_w14.out.below hb)
 have HSb_Vw14 := hidLawWorNewW (HSb_w14.out.below hb)
 have HGb_Vw14 := hidLawWorNewW (HGb_w14.out.below hb)
 have HH_Vw14 := hidLawWorNewW (HH_w14.out.below hb)
 have HA_Vw14 := hidLawWorNewW (HA_w14.out.below hb)
 have HK_Vw14 := hidLawWorNewW (HK_w14.out.below hb)
 clear HB_w14 HP_w14 HS_w14 HSb_w14 HGb_w14 HH_w14 HA_w14 HK_w14
 clear hb
 have HKb_Vw14 := hidLawWorNewW BHKb
 clear BHKb
 clear HA_Vw14
 obtain ⟨g0, g1, g2, g3, g4, g5, g6, g7⟩ := c8_8 HKb_Vw14.out
 obtain ⟨t0, t1, t2, t3, t4, t5, t6, t7⟩ := c8_8 HSb_Vw14.out
 go_wp2_with fail
 clear hVw14
 clear g0 g1 g2 g3 g4 g5 g6 g7
 clear t0 t1 t2 t3 t4 t5 t6 t7
 refine (eqWorld_same _ _ R _ HE.out HK_Vw14.out.is HS_Vw14.out.is).mono ?_
 rintro r w15 ⟨rfl, hb⟩
 have z_w15 : Vw14.heap.size ≤ w15.heap.size := hb.size
 have HB_w15 := hidLawWorNewW (HB_Vw14.out.trans (hb.mono HB_Vw14.out.size))
 have HP_w15 := hidLawWorNewW (HP_Vw14.out.below hb)
 have HS_w15 := hidLawWorNewW (HS_Vw14.out.below hb)
 have HSb_w15 := hidLawWorNewW (HSb_Vw14.out.below hb)
 have HGb_w15 := hidLawWorNewW (HGb_Vw14.out.below hb)
 have HH_w15 := hidLawWorNewW (HH_Vw14.out.below hb)
 have HK_w15 := hidLawWorNewW (HK_Vw14.out.below hb)
 have HKb_w15 := hidLawWorNewW (HKb_Vw14.out.below hb)
 clear HB_Vw14 HP_Vw14 HS_Vw14 HSb_Vw14 HGb_Vw14 HH_Vw14 HK_Vw14 HKb_Vw14
 clear hb
 obtain ⟨g0, g1, g2, g3, g4, g5, g6, g7⟩ := c8_8 HGb_w15.out
 go_wp2_with fail
 clear g0 g1 g2 g3 g4 g5 g6 g7
 refine (heldWorld_any HTK.out HH_w15.out).mono ?_
 rintro r w16 ⟨rfl, hb⟩
 have z_w16 : w15.heap.size ≤ w16.heap.size := hb.size
 have HB_w16 := hidLawWorNewW (HB_w15.out.trans (hb.mono HB_w15.out.size))
 have HP_w16 := hidLawWorNewW (HP_w15.out.below hb)
 have HS_w16 := hidLawWorNewW (HS_w15.out.below hb)
 have HSb_w16 := hidLawWorNewW (HSb_w15.out.below hb)
 have HGb_w16 := hidLawWorNewW (HGb_w15.out.below hb)
 have HH_w16 := hidLawWorNewW (HH_w15.out.below hb)
 have HK_w16 := hidLawWorNewW (HK_w15.out.below hb)
 have HKb_w16 := hidLawWorNewW (HKb_w15.out.below hb)
 clear HB_w15 HP_w15 HS_w15 HSb_w15 HGb_w15 HH_w15 HK_w15 HKb_w15
 clear hb
 go_wp2
 go_ret
 exact ⟨rfl, HB_w16.out⟩
end Go.Proofs.YthfhibnnkpbeiaaGreat.LawExactWorldNew
