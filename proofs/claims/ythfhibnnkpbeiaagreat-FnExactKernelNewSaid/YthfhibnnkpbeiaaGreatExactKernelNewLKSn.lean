/- The specification's KernelNew. -/
import Derived.Test.YthfhibnnkpbeiaaGreatExactKernelNewG31
import Derived.Test.YthfhibnnkpbeiaaGreatExactKernelNewLKOw
import Derived.Test.YthfhibnnkpbeiaaGreatExactKernelNewLKNy
import Derived.Test.YthfhibnnkpbeiaaGreatExactKernelNewLMOkS
import Derived.Test.YthfhibnnkpbeiaaGreatExactKernelNewG33
namespace Go.Proofs.YthfhibnnkpbeiaaGreat
open Go.RowKit
theorem KernF.wider {F F' : Nat → Prop} {w : World} {y : Value} {k : Kn} (h : KernF F w y k) (hF : ∀ j, F j → F' j) : KernF F' w y k := by
 obtain ⟨A0, A6, A7, A8, A12, A13, vi, vh, vs, u6, u7, u8, u12, u13, rfl, hm, h6, h7, h8, h12, h13, d0, d6, d7, d8, d12, d13⟩ := h
 exact ⟨A0, A6, A7, A8, A12, A13, vi, vh, vs, u6, u7, u8, u12, u13, rfl, hm, h6, h7, h8, h12, h13, fun j hj => ⟨hF j (d0 j hj).1, (d0 j hj).2⟩, fun j hj => ⟨hF j (d6 j hj).1, (d6 j hj).2⟩, fun j hj => ⟨hF j (d7 j hj).1, (d7 j hj).2⟩, fun j hj => ⟨hF j (d8 j hj).1, (d8 j hj).2⟩, fun j hj => ⟨hF j (d12 j hj).1, (d12 j hj).2⟩, fun j hj => hF j (d13 j hj)⟩
theorem KernF.newForm {F : Nat → Prop} {w : World} {y : Value} {m : Md} {d : List Int} (h : KernF F w y (newK m d)) : ∃ b2 e2 b3 e3 b4 e4 b6 e6 b7 e7 b8 e8 b12 e12 b13 e13, y = .agg #[.int .i64 m.n, .int .i64 m.s, .slice b2 m.i.length e2, .slice b3 m.h.length e3, .slice b4 m.e.length e4, .int .i64 m.z, .slice b6 d.length e6, .slice b7 m.n.toNat e7, .slice b8 0 e8, .int .i64 6, .int .i64 (-1), .bool false, .slice b12 0 e12, .slice b13 0 e13] := by
 obtain ⟨_, _, _, _, _, _, vi, vh, vs, u6, u7, u8, u12, u13, rfl, hm, h6, h7, h8, h12, h13, _⟩ := h
 obtain ⟨b2, e2, b3, e3, b4, e4, he⟩ := hm.form
 obtain ⟨b6, e6, rfl, _⟩ := IsD.len h6.isD
 obtain ⟨b7, e7, rfl, _⟩ := IsD.len h7.isD
 obtain ⟨b8, e8, rfl, _⟩ := IsD.len h8.isD
 obtain ⟨b12, e12, rfl, _⟩ := IsD.len h12.isD
 obtain ⟨b13, e13, rfl, _⟩ := IsD.len h13.isD
 simp [newK] at he
 obtain ⟨rfl, rfl, rfl⟩ := he
 refine ⟨b2, e2, b3, e3, b4, e4, b6, e6, b7, e7, b8, e8, b12, e12, b13, e13, ?_⟩
 simp [newK, newPs_len]
set_option maxRecDepth 100000 in
set_option maxHeartbeats 16000000 in
theorem sKernelNew (x : Value) (m : Md) (ad : Option Addr) (cd : Nat) (d : List Int) (w : World) (hs : SmallM m) (hdl : d.length ≤ 1048576) (h : IsM w x m) (hd : IsI w (.slice ad d.length cd) d) :
  Calls Tryz.prog 6 #[x, .slice ad d.length cd] w fun e w' => ∃ y, e = .returned (.tuple #[y, .bool (kOk m d)]) ∧ Below w.heap.size w w' ∧ KernF (fun j => w.heap.size ≤ j ∧ j < w'.heap.size) w' y (kernA m d) := by
 have HM : Hid (IsM w x m) := h
 have HD : Hid (IsI w (.slice ad d.length cd) d) := hd
 have HS : Hid (SmallM m) := hs
 obtain ⟨vi0, vh0, vs0, rfl, hI, hH, hE⟩ := h
 obtain ⟨ai, ci, rfl, _⟩ := hI
 obtain ⟨ah, ch, rfl, _⟩ := hH
 obtain ⟨ae, ce, rfl, _⟩ := hE
 clear hs hd
 obtain ⟨Rb, hRb⟩ : ∃ Rb, Rb = w.heap.size + 1 := ⟨_, rfl⟩
 obtain ⟨W0, hW0⟩ : ∃ W0, (w.alloc (.cells #[.int .i64 m.n, .int .i64 m.s, .slice ai m.i.length ci, .slice ah m.h.length ch, .slice ae m.e.length ce, .int .i64 m.z] 31)).alloc (.cells #[.int .i64 0, .int .i64 0, .slice none 0 0, .slice none 0 0, .slice none 0 0, .int .i64 0, .slice none 0 0, .slice none 0 0, .slice none 0 0, .int .i64 0, .int .i64 0, .bool false, .slice none 0 0, .slice none 0 0] 36) = W0 := ⟨_, rfl⟩
 have HP0 : Hid (Bk W0 w.heap.size 31 #[.int .i64 m.n, .int .i64 m.s, .slice ai m.i.length ci, .slice ah m.h.length ch, .slice ae m.e.length ce, .int .i64 m.z]) := hW0 ▸ (Bk.new w _ _).alloc _
 have HR0 : Hid (Bk W0 Rb 36 #[.int .i64 0, .int .i64 0, .slice none 0 0, .slice none 0 0, .slice none 0 0, .int .i64 0, .slice none 0 0, .slice none 0 0, .slice none 0 0, .int .i64 0, .int .i64 0, .bool false, .slice none 0 0, .slice none 0 0]) := by rw [← hW0]; exact Bk.newAt (by simp [hRb]) _ _
 have HB0 : Hid (Below w.heap.size w W0) := by rw [← hW0]; exact ((Below.refl _ w).alloc (Nat.le_refl _) _).alloc (by simp) _
 have HW0 : Hid ((w.alloc (.cells #[.int .i64 m.n, .int .i64 m.s, .slice ai m.i.length ci, .slice ah m.h.length ch, .slice ae m.e.length ce, .int .i64 m.z] 31)).alloc (.cells #[.int .i64 0, .int .i64 0, .slice none 0 0, .slice none 0 0, .slice none 0 0, .int .i64 0, .slice none 0 0, .slice none 0 0, .slice none 0 0, .int .i64 0, .int .i64 0, .bool false, .slice none 0 0, .slice none 0 0] 36) = W0) := hW0
 have HRB : Hid (Rb = w.heap.size + 1) := hRb
 have hRw : w.heap.size < Rb := by omega
 have c0 := ((Bk.new w 31 #[.int .i64 m.n, .int .i64 m.s, .slice ai m.i.length ci, .slice ah m.h.length ch, .slice ae m.e.length ce, .int .i64 m.z]).alloc (.cells #[.int .i64 0, .int .i64 0, .slice none 0 0, .slice none 0 0, .slice none 0 0, .int .i64 0, .slice none 0 0, .slice none 0 0, .slice none 0 0, .int .i64 0, .int .i64 0, .bool false, .slice none 0 0, .slice none 0 0] 36)).cell (i := 0) rfl
 have c1 := ((Bk.new w 31 #[.int .i64 m.n, .int .i64 m.s, .slice ai m.i.length ci, .slice ah m.h.length ch, .slice ae m.e.length ce, .int .i64 m.z]).alloc (.cells #[.int .i64 0, .int .i64 0, .slice none 0 0, .slice none 0 0, .slice none 0 0, .int .i64 0, .slice none 0 0, .slice none 0 0, .slice none 0 0, .int .i64 0, .int .i64 0, .bool false, .slice none 0 0, .slice none 0 0] 36)).cell (i := 1) rfl
 have c2 := ((Bk.new w 31 #[.int .i64 m.n, .int .i64 m.s, .slice ai m.i.length ci, .slice ah m.h.length ch, .slice ae m.e.length ce, .int .i64 m.z]).alloc (.cells #[.int .i64 0, .int .i64 0, .slice none 0 0, .slice none 0 0, .slice none 0 0, .int .i64 0, .slice none 0 0, .slice none 0 0, .slice none 0 0, .int .i64 0, .int .i64 0, .bool false, .slice none 0 0, .slice none 0 0] 36)).cell (i := 2) rfl
 have c3 := ((Bk.new w 31 #[.int .i64 m.n, .int .i64 m.s, .slice ai m.i.length ci, .slice ah m.h.length ch, .slice ae m.e.length ce, .int .i64 m.z]).alloc (.cells #[.int .i64 0, .int .i64 0, .slice none 0 0, .slice none 0 0, .slice none 0 0, .int .i64 0, .slice none 0 0, .slice none 0 0, .slice none 0 0, .int .i64 0, .int .i64 0, .bool false, .slice none 0 0, .slice none 0 0] 36)).cell (i := 3) rfl
 have c4 := ((Bk.new w 31 #[.int .i64 m.n, .int .i64 m.s, .slice ai m.i.length ci, .slice ah m.h.length ch, .slice ae m.e.length ce, .int .i64 m.z]).alloc (.cells #[.int .i64 0, .int .i64 0, .slice none 0 0, .slice none 0 0, .slice none 0 0, .int .i64 0, .slice none 0 0, .slice none 0 0, .slice none 0 0, .int .i64 0, .int .i64 0, .bool false, .slice none 0 0, .slice none 0 0] 36)).cell (i := 4) rfl
 have c5 := ((Bk.new w 31 #[.int .i64 m.n, .int .i64 m.s, .slice ai m.i.length ci, .slice ah m.h.length ch, .slice ae m.e.length ce, .int .i64 m.z]).alloc (.cells #[.int .i64 0, .int .i64 0, .slice none 0 0, .slice none 0 0, .slice none 0 0, .int .i64 0, .slice none 0 0, .slice none 0 0, .slice none 0 0, .int .i64 0, .int .i64 0, .bool false, .slice none 0 0, .slice none 0 0] 36)).cell (i := 5) rfl
 clear hW0 hRb
 go_enter Tryz.func6, Tryz.ntmps6
 go_wp2_with fail
 rw [HW0.out, ← HRB.out]
 clear HW0 c0 c1 c2 c3 c4 c5
 refine (sModM _ m W0 HS.out (HM.out.below HB0.out)).mono ?_
 rintro e w1 ⟨rfl, hb⟩
 have HP1 : Hid (Bk w1 w.heap.size 31 #[.int .i64 m.n, .int .i64 m.s, .slice ai m.i.length ci, .slice ah m.h.length ch, .slice ae m.e.length ce, .int .i64 m.z]) := HP0.out.below hb
 have HR1 : Hid (Bk w1 Rb 36 #[.int .i64 0, .int .i64 0, .slice none 0 0, .slice none 0 0, .slice none 0 0, .int .i64 0, .slice none 0 0, .slice none 0 0, .slice none 0 0, .int .i64 0, .int .i64 0, .bool false, .slice none 0 0, .slice none 0 0]) := HR0.out.below hb
 have HB1 : Hid (Below w.heap.size w w1) := HB0.out.trans (hb.mono HB0.out.size)
 clear hb HP0 HR0 HB0
 cases hok : m.ok
 case false =>
  have HNO : Hid (kOk m d = false) := (by unfold kOk; rw [hok]; rfl : kOk m d = false)
  clear hok
  have r0 := HR1.out.cell (i := 0) rfl
  have r1 := HR1.out.cell (i := 1) rfl
  have r2 := HR1.out.cell (i := 2) rfl
  have r3 := HR1.out.cell (i := 3) rfl
  have r4 := HR1.out.cell (i := 4) rfl
  have r5 := HR1.out.cell (i := 5) rfl
  have r6 := HR1.out.cell (i := 6) rfl
  have r7 := HR1.out.cell (i := 7) rfl
  have r8 := HR1.out.cell (i := 8) rfl
  have r9 := HR1.out.cell (i := 9) rfl
  have r10 := HR1.out.cell (i := 10) rfl
  have r11 := HR1.out.cell (i := 11) rfl
  have r12 := HR1.out.cell (i := 12) rfl
  have r13 := HR1.out.cell (i := 13) rfl
  have rf := HR1.out.free
  obtain ⟨wf, hwf⟩ : ∃ X, put14 w1 Rb (.int .i64 0) (.int .i64 0) (.slice none 0 0) (.slice none 0 0) (.slice none 0 0) (.int .i64 0) (.slice none 0 0) (.slice none 0 0) (.slice none 0 0) (.int .i64 0) (.int .i64 0) (.bool false) (.slice none 0 0) (.slice none 0 0) = X := ⟨_, rfl⟩
  have HTF : Hid (Turns (fun j => j = Rb) w1 wf) := hwf ▸ put14_turns _ _ _ _ _ _ _ _ _ _ _ _ _ _ _ _
  have HRF : Hid (Bk wf Rb 36 #[.int .i64 0, .int .i64 0, .slice none 0 0, .slice none 0 0, .slice none 0 0, .int .i64 0, .slice none 0 0, .slice none 0 0, .slice none 0 0, .int .i64 0, .int .i64 0, .bool false, .slice none 0 0, .slice none 0 0]) := hwf ▸ HR1.out.put14 _ _ _ _ _ _ _ _ _ _ _ _ _ _
  have t0 := HRF.out.cell (i := 0) rfl
  have t1 := HRF.out.cell (i := 1) rfl
  have t2 := HRF.out.cell (i := 2) rfl
  have t3 := HRF.out.cell (i := 3) rfl
  have t4 := HRF.out.cell (i := 4) rfl
  have t5 := HRF.out.cell (i := 5) rfl
  have t6 := HRF.out.cell (i := 6) rfl
  have t7 := HRF.out.cell (i := 7) rfl
  have t8 := HRF.out.cell (i := 8) rfl
  have t9 := HRF.out.cell (i := 9) rfl
  have t10 := HRF.out.cell (i := 10) rfl
  have t11 := HRF.out.cell (i := 11) rfl
  have t12 := HRF.out.cell (i := 12) rfl
  have t13 := HRF.out.cell (i := 13) rfl
  unfold put14 at hwf
  go_wp2
  refine bodyPost_ret (v := .tuple #[.agg #[.int .i64 0, .int .i64 0, .slice none 0 0, .slice none 0 0, .slice none 0 0, .int .i64 0, .slice none 0 0, .slice none 0 0, .slice none 0 0, .int .i64 0, .int .i64 0, .bool false, .slice none 0 0, .slice none 0 0], .bool false]) (by simp [results, Tryz.results6, go_sem, t0, t1, t2, t3, t4, t5, t6, t7, t8, t9, t10, t11, t12, t13]) rfl ⟨_, by rw [HNO.out], HB1.out.trans (HTF.out.to_below (fun j hj => by omega) HB1.out.size), ?_⟩
  rw [kern_no HNO.out]
  exact kn0_own _ _
 go_wp2_with fail
 refine (sVok_any _ d w1 (by omega) (HD.out.below HB1.out)).mono ?_
 rintro e w2 ⟨rfl, hw2⟩
 have hw2' := hw2.symm
 clear hw2
 subst hw2'
 cases hv : vok d
 case false =>
  have HNO : Hid (kOk m d = false) := (by unfold kOk; rw [hok, hv]; rfl : kOk m d = false)
  clear hok hv
  have r0 := HR1.out.cell (i := 0) rfl
  have r1 := HR1.out.cell (i := 1) rfl
  have r2 := HR1.out.cell (i := 2) rfl
  have r3 := HR1.out.cell (i := 3) rfl
  have r4 := HR1.out.cell (i := 4) rfl
  have r5 := HR1.out.cell (i := 5) rfl
  have r6 := HR1.out.cell (i := 6) rfl
  have r7 := HR1.out.cell (i := 7) rfl
  have r8 := HR1.out.cell (i := 8) rfl
  have r9 := HR1.out.cell (i := 9) rfl
  have r10 := HR1.out.cell (i := 10) rfl
  have r11 := HR1.out.cell (i := 11) rfl
  have r12 := HR1.out.cell (i := 12) rfl
  have r13 := HR1.out.cell (i := 13) rfl
  have rf := HR1.out.free
  obtain ⟨wf, hwf⟩ : ∃ X, put14 w1 Rb (.int .i64 0) (.int .i64 0) (.slice none 0 0) (.slice none 0 0) (.slice none 0 0) (.int .i64 0) (.slice none 0 0) (.slice none 0 0) (.slice none 0 0) (.int .i64 0) (.int .i64 0) (.bool false) (.slice none 0 0) (.slice none 0 0) = X := ⟨_, rfl⟩
  have HTF : Hid (Turns (fun j => j = Rb) w1 wf) := hwf ▸ put14_turns _ _ _ _ _ _ _ _ _ _ _ _ _ _ _ _
  have HRF : Hid (Bk wf Rb 36 #[.int .i64 0, .int .i64 0, .slice none 0 0, .slice none 0 0, .slice none 0 0, .int .i64 0, .slice none 0 0, .slice none 0 0, .slice none 0 0, .int .i64 0, .int .i64 0, .bool false, .slice none 0 0, .slice none 0 0]) := hwf ▸ HR1.out.put14 _ _ _ _ _ _ _ _ _ _ _ _ _ _
  have t0 := HRF.out.cell (i := 0) rfl
  have t1 := HRF.out.cell (i := 1) rfl
  have t2 := HRF.out.cell (i := 2) rfl
  have t3 := HRF.out.cell (i := 3) rfl
  have t4 := HRF.out.cell (i := 4) rfl
  have t5 := HRF.out.cell (i := 5) rfl
  have t6 := HRF.out.cell (i := 6) rfl
  have t7 := HRF.out.cell (i := 7) rfl
  have t8 := HRF.out.cell (i := 8) rfl
  have t9 := HRF.out.cell (i := 9) rfl
  have t10 := HRF.out.cell (i := 10) rfl
  have t11 := HRF.out.cell (i := 11) rfl
  have t12 := HRF.out.cell (i := 12) rfl
  have t13 := HRF.out.cell (i := 13) rfl
  unfold put14 at hwf
  go_wp2
  refine bodyPost_ret (v := .tuple #[.agg #[.int .i64 0, .int .i64 0, .slice none 0 0, .slice none 0 0, .slice none 0 0, .int .i64 0, .slice none 0 0, .slice none 0 0, .slice none 0 0, .int .i64 0, .int .i64 0, .bool false, .slice none 0 0, .slice none 0 0], .bool false]) (by simp [results, Tryz.results6, go_sem, t0, t1, t2, t3, t4, t5, t6, t7, t8, t9, t10, t11, t12, t13]) rfl ⟨_, by rw [HNO.out], HB1.out.trans (HTF.out.to_below (fun j hj => by omega) HB1.out.size), ?_⟩
  rw [kern_no HNO.out]
  exact kn0_own _ _
 have HYE : Hid (kOk m d = true) := (by unfold kOk; rw [hok, hv]; rfl : kOk m d = true)
 have HOK : Hid (m.ok = true) := hok
 have HV4 : Hid (d.length = 4) := (by obtain ⟨a, b, c, e, rfl, _⟩ := vok_four hv; rfl : d.length = 4)
 clear hok hv
 have p0 := HP1.out.cell (i := 0) rfl
 have p1 := HP1.out.cell (i := 1) rfl
 have p2 := HP1.out.cell (i := 2) rfl
 have p3 := HP1.out.cell (i := 3) rfl
 have p4 := HP1.out.cell (i := 4) rfl
 have p5 := HP1.out.cell (i := 5) rfl
 go_wp2_with fail
 clear p0 p1 p2 p3 p4 p5
 refine (l5new_ex m ai ci ah ch ae ce ad cd d w1 HOK.out (HM.out.below HB1.out) (HD.out.below HB1.out)).mono ?_
 rintro e w3 ⟨⟨ap, cp, rfl, hm3, hd3, hp3⟩, hb⟩
 have HR3 : Hid (Bk w3 Rb 36 #[.int .i64 0, .int .i64 0, .slice none 0 0, .slice none 0 0, .slice none 0 0, .int .i64 0, .slice none 0 0, .slice none 0 0, .slice none 0 0, .int .i64 0, .int .i64 0, .bool false, .slice none 0 0, .slice none 0 0]) := HR1.out.below hb
 have HB3 : Hid (Below w.heap.size w w3) := HB1.out.trans (hb.mono HB1.out.size)
 have HM3 : Hid (IsM w3 (.agg #[.int .i64 m.n, .int .i64 m.s, .slice ai m.i.length ci, .slice ah m.h.length ch, .slice ae m.e.length ce, .int .i64 m.z]) m) := hm3
 have HD3 : Hid (IsD w3 (.slice ad d.length cd) (intsD d)) := hd3
 have HP3 : Hid (IsD w3 (.slice ap m.n.toNat cp) (partsD (newPs m m.n.toNat))) := hp3
 clear hb hm3 hd3 hp3 HP1 HR1 HB1
 go_wp2_with fail
 refine (own5_any m d ai ci ah ch ae ce ad cd ap cp m.n.toNat w3 HOK.out rfl HV4.out HM3.out HD3.out HP3.out).mono ?_
 rintro e w4 ⟨⟨y, rfl, hy⟩, hb⟩
 have HR4 : Hid (Bk w4 Rb 36 #[.int .i64 0, .int .i64 0, .slice none 0 0, .slice none 0 0, .slice none 0 0, .int .i64 0, .slice none 0 0, .slice none 0 0, .slice none 0 0, .int .i64 0, .int .i64 0, .bool false, .slice none 0 0, .slice none 0 0]) := HR3.out.below hb
 have HB4 : Hid (Below w.heap.size w w4) := HB3.out.trans (hb.mono HB3.out.size)
 have HR3l : Hid (Rb < w3.heap.size) := HR3.out.lt
 have HL3 : Hid (w.heap.size ≤ w3.heap.size) := HB3.out.size
 have HY : Hid (KernF (fun j => w3.heap.size ≤ j ∧ j < w4.heap.size) w4 y (newK m d)) := hy
 obtain ⟨b2, e2, b3, e3, b4, e4, b6, e6, b7, e7, b8, e8, b12, e12, b13, e13, rfl⟩ := hy.newForm
 clear hy hb HR3 HB3 HM3 HD3 HP3
 have r0 := HR4.out.cell (i := 0) rfl
 have r1 := HR4.out.cell (i := 1) rfl
 have r2 := HR4.out.cell (i := 2) rfl
 have r3 := HR4.out.cell (i := 3) rfl
 have r4 := HR4.out.cell (i := 4) rfl
 have r5 := HR4.out.cell (i := 5) rfl
 have r6 := HR4.out.cell (i := 6) rfl
 have r7 := HR4.out.cell (i := 7) rfl
 have r8 := HR4.out.cell (i := 8) rfl
 have r9 := HR4.out.cell (i := 9) rfl
 have r10 := HR4.out.cell (i := 10) rfl
 have r11 := HR4.out.cell (i := 11) rfl
 have r12 := HR4.out.cell (i := 12) rfl
 have r13 := HR4.out.cell (i := 13) rfl
 have rf := HR4.out.free
 obtain ⟨wf, hwf⟩ : ∃ X, put14 w4 Rb (.int .i64 m.n) (.int .i64 m.s) (.slice b2 m.i.length e2) (.slice b3 m.h.length e3) (.slice b4 m.e.length e4) (.int .i64 m.z) (.slice b6 d.length e6) (.slice b7 m.n.toNat e7) (.slice b8 0 e8) (.int .i64 6) (.int .i64 (-1)) (.bool false) (.slice b12 0 e12) (.slice b13 0 e13) = X := ⟨_, rfl⟩
 have HTF : Hid (Turns (fun j => j = Rb) w4 wf) := hwf ▸ put14_turns _ _ _ _ _ _ _ _ _ _ _ _ _ _ _ _
 have HRF : Hid (Bk wf Rb 36 #[.int .i64 m.n, .int .i64 m.s, .slice b2 m.i.length e2, .slice b3 m.h.length e3, .slice b4 m.e.length e4, .int .i64 m.z, .slice b6 d.length e6, .slice b7 m.n.toNat e7, .slice b8 0 e8, .int .i64 6, .int .i64 (-1), .bool false, .slice b12 0 e12, .slice b13 0 e13]) := hwf ▸ HR4.out.put14 _ _ _ _ _ _ _ _ _ _ _ _ _ _
 have HBF : Hid (Below w.heap.size w wf) := HB4.out.trans (HTF.out.to_below (fun j hj => by omega) HB4.out.size)
 have t0 := HRF.out.cell (i := 0) rfl
 have t1 := HRF.out.cell (i := 1) rfl
 have t2 := HRF.out.cell (i := 2) rfl
 have t3 := HRF.out.cell (i := 3) rfl
 have t4 := HRF.out.cell (i := 4) rfl
 have t5 := HRF.out.cell (i := 5) rfl
 have t6 := HRF.out.cell (i := 6) rfl
 have t7 := HRF.out.cell (i := 7) rfl
 have t8 := HRF.out.cell (i := 8) rfl
 have t9 := HRF.out.cell (i := 9) rfl
 have t10 := HRF.out.cell (i := 10) rfl
 have t11 := HRF.out.cell (i := 11) rfl
 have t12 := HRF.out.cell (i := 12) rfl
 have t13 := HRF.out.cell (i := 13) rfl
 unfold put14 at hwf
 go_wp2
 refine bodyPost_ret (v := .tuple #[.agg #[.int .i64 m.n, .int .i64 m.s, .slice b2 m.i.length e2, .slice b3 m.h.length e3, .slice b4 m.e.length e4, .int .i64 m.z, .slice b6 d.length e6, .slice b7 m.n.toNat e7, .slice b8 0 e8, .int .i64 6, .int .i64 (-1), .bool false, .slice b12 0 e12, .slice b13 0 e13], .bool true]) (by simp [results, Tryz.results6, go_sem, t0, t1, t2, t3, t4, t5, t6, t7, t8, t9, t10, t11, t12, t13]) rfl ⟨_, by rw [HYE.out], HBF.out, ?_⟩
 rw [kern_yes HYE.out]
 exact (HY.out.turns HTF.out (fun j hj e => by have h9 := HR3l.out; omega)).wider (fun j hj => ⟨Nat.le_trans HL3.out hj.1, Nat.lt_of_lt_of_le hj.2 HTF.out.size⟩)
end Go.Proofs.YthfhibnnkpbeiaaGreat
