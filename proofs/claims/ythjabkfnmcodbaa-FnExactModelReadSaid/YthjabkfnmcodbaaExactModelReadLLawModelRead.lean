/- At every row of bytes the program's ModelRead answers as the specification's, its answer owns its memory, and it writes into nothing that it is given; no condition. -/
import Derived.Test.YthjabkfnmcodbaaExactModelReadG24
import Derived.Test.YthjabkfnmcodbaaExactModelReadLMLaw
import Derived.Test.YthjabkfnmcodbaaExactModelReadG17
import Derived.Test.YthjabkfnmcodbaaExactModelReadG14
namespace Go.Proofs.Ythjabkfnmcodbaa.LawExactModelRead
open Go.ChangeShapes Go.WideShapes Go.ChangeAt Go.RowKit Go.Proofs.Ythjabkfnmcodbaa

theorem IsM.form {w : World} {y : Value} {m : Md} (h : IsM w y m) : ∃ ai ci ah ch ae ce, y = .agg #[.int .i64 m.n, .int .i64 m.s, .slice ai m.i.length ci, .slice ah m.h.length ch, .slice ae m.e.length ce, .int .i64 m.z] := by
  obtain ⟨vi, vh, vs, rfl, ⟨a1, c1, rfl, _⟩, ⟨a2, c2, rfl, _⟩, ⟨a3, c3, rfl, _⟩⟩ := h
  exact ⟨a1, c1, a2, c2, a3, c3, rfl⟩
set_option maxRecDepth 100000 in
set_option maxHeartbeats 16000000 in
theorem walk (x0 : Value) (l0 : List UInt8) (w : World) (hx0 : By.IsI w x0 l0) :
    Calls Try.prog 6 #[x0] w fun e w' => e = .returned (.bool true) ∧ Below w.heap.size w w' := by
  have HX0 : Hid (By.IsI w x0 l0) := hx0
  obtain ⟨a0, cap0, rfl, p0, q0, _⟩ := hx0
  have m0 : l0.length ≤ 9223372036854775807 := by unfold maxLen at q0; omega
  clear p0 q0
  by_cases hl0 : l0.length ≤ 1048576
  case neg =>
    have hi : (1048576 : Int) < (l0.length : Int) := by omega
    go_enter Try.func6, Try.ntmps6
    go_wp2
    go_ret
    exact ⟨rfl, Below.refl _ _⟩
  have hi0 : ¬ (1048576 : Int) < (l0.length : Int) := by omega
  have hk0 : ¬ ((l0.length : Int) + 1 < 0) := by omega
  have HC : Hid (∃ m b, SmallM m ∧ (∀ (v0 : Value) (W : World), By.IsI W v0 l0 → Calls Try.prog 22 #[v0] W fun e w' => ∃ y, e = .returned (.tuple #[y, .bool b]) ∧ IsM w' y m ∧ Below W.heap.size W w') ∧ (∀ (v0 : Value) (W : World), By.IsI W v0 l0 → Calls Try.prog 24 #[v0] W fun e w' => ∃ y, e = .returned (.tuple #[y, .bool b]) ∧ Below W.heap.size W w' ∧ MdF (fun k => W.heap.size ≤ k ∧ k < w'.heap.size) w' y m) ∧ b = readOk l0) := ⟨readM l0, readOk l0, small_readM l0, fun v0 W h0 => sReadM v0 l0 W hl0 h0, fun v0 W h0 => iReadM v0 l0 W hl0 h0, rfl⟩
  obtain ⟨m, b, hsm, hsp, him, hbb⟩ := HC.out
  have HSM : Hid (SmallM m) := hsm
  have HSP : Hid (∀ (v0 : Value) (W : World), By.IsI W v0 l0 → Calls Try.prog 22 #[v0] W fun e w' => ∃ y, e = .returned (.tuple #[y, .bool b]) ∧ IsM w' y m ∧ Below W.heap.size W w') := hsp
  have HIM : Hid (∀ (v0 : Value) (W : World), By.IsI W v0 l0 → Calls Try.prog 24 #[v0] W fun e w' => ∃ y, e = .returned (.tuple #[y, .bool b]) ∧ Below W.heap.size W w' ∧ MdF (fun k => W.heap.size ≤ k ∧ k < w'.heap.size) w' y m) := him
  have hkn : ¬ (markNo m < 0) := by have := markNo_pos m; omega
  clear HC hsp him hbb hsm
  go_enter Try.func6, Try.ntmps6
  have HB_w : Hid (Below w.heap.size w w) := Below.refl _ _
  go_wp2_with fail
  refine (By.toI_any _ l0 _ hl0 (HX0.out.below HB_w.out)).mono ?_
  rintro e w1 ⟨rfl, hb, hr⟩
  have y_w1 : w.heap.size < w1.heap.size := hr.1
  have HP_w1 : Hid (By.RowI w1 w.heap.size l0) := hr
  have z_w1 : w.heap.size ≤ w1.heap.size := hb.size
  have HB_w1 : Hid (Below w.heap.size w w1) := HB_w.out.trans (hb.mono HB_w.out.size)
  clear HB_w
  clear hb hr
  go_wp2_with fail
  refine (HSP.out _ _ (HP_w1.out.isI (by unfold maxLen; omega))).mono ?_
  rintro e w2 ⟨ys, rfl, hm, hb⟩
  obtain ⟨asi, csi, ash, csh, ase, cse, rfl⟩ := IsM.form hm
  have HMS : Hid (IsM w2 (.agg #[.int .i64 m.n, .int .i64 m.s, .slice asi m.i.length csi, .slice ash m.h.length csh, .slice ase m.e.length cse, .int .i64 m.z]) m) := hm
  have z_w2 : w1.heap.size ≤ w2.heap.size := hb.size
  have HB_w2 : Hid (Below w.heap.size w w2) := HB_w1.out.trans (hb.mono HB_w1.out.size)
  clear HB_w1 HP_w1
  clear hb hm HSP
  obtain ⟨V1, hV1⟩ : ∃ V, w2.alloc (.cells #[.int .i64 m.n, .int .i64 m.s, .slice asi m.i.length csi, .slice ash m.h.length csh, .slice ase m.e.length cse, .int .i64 m.z] 34) = V := ⟨_, rfl⟩
  have hbx : Bk V1 w2.heap.size 34 #[.int .i64 m.n, .int .i64 m.s, .slice asi m.i.length csi, .slice ash m.h.length csh, .slice ase m.e.length cse, .int .i64 m.z] := by rw [← hV1]; exact Bk.new _ _ _
  have hb : Below w2.heap.size w2 V1 := by rw [← hV1]; exact (Below.refl _ _).alloc (Nat.le_refl _) _
  have HXS : Hid (Bk V1 w2.heap.size 34 #[.int .i64 m.n, .int .i64 m.s, .slice asi m.i.length csi, .slice ash m.h.length csh, .slice ase m.e.length cse, .int .i64 m.z]) := hbx
  have hV_V1 : w2.heap.size < V1.heap.size := hbx.lt
  have HIS : Hid (IsM V1 (.agg #[.int .i64 m.n, .int .i64 m.s, .slice asi m.i.length csi, .slice ash m.h.length csh, .slice ase m.e.length cse, .int .i64 m.z]) m) := HMS.out.below hb
  have z_V1 : w2.heap.size ≤ V1.heap.size := hb.size
  have HB_V1 : Hid (Below w.heap.size w V1) := HB_w2.out.trans (hb.mono HB_w2.out.size)
  clear HB_w2
  clear hb hbx HMS
  have HL_V1 : Hid (Below V1.heap.size V1 V1) := Below.refl _ _
  go_wp2_with fail
  clear hV1
  refine (By.toI_any _ l0 _ hl0 (HX0.out.below HB_V1.out)).mono ?_
  rintro e w3 ⟨rfl, hb, hr⟩
  have y_w3 : V1.heap.size < w3.heap.size := hr.1
  have HR_w3 : Hid (By.RowI w3 V1.heap.size l0) := hr
  have z_w3 : V1.heap.size ≤ w3.heap.size := hb.size
  have HB_w3 : Hid (Below w.heap.size w w3) := HB_V1.out.trans (hb.mono HB_V1.out.size)
  have HL_w3 : Hid (Below V1.heap.size V1 w3) := HL_V1.out.trans (hb.mono HL_V1.out.size)
  clear HB_V1 HL_V1
  clear hb hr
  go_wp2_with fail
  refine (HIM.out _ _ (HR_w3.out.isI (by unfold maxLen; omega))).mono ?_
  rintro e w4 ⟨yg, rfl, hb, hm⟩
  obtain ⟨agi, cgi, agh, cgh, age, cge, rfl⟩ := hm.form
  have HG_w4 : Hid (MdF (fun k => w3.heap.size ≤ k ∧ k < w4.heap.size) w4 (.agg #[.int .i64 m.n, .int .i64 m.s, .slice agi m.i.length cgi, .slice agh m.h.length cgh, .slice age m.e.length cge, .int .i64 m.z]) m) := hm
  have z_w4 : w3.heap.size ≤ w4.heap.size := hb.size
  have HB_w4 : Hid (Below w.heap.size w w4) := HB_w3.out.trans (hb.mono HB_w3.out.size)
  have HL_w4 : Hid (Below V1.heap.size V1 w4) := HL_w3.out.trans (hb.mono HL_w3.out.size)
  have HR_w4 : Hid (By.RowI w4 V1.heap.size l0) := HR_w3.out.below hb (by omega)
  clear HB_w3 HL_w3 HR_w3
  clear hb hm
  obtain ⟨V2, hV2⟩ : ∃ V, w4.alloc (.cells #[.int .i64 m.n, .int .i64 m.s, .slice agi m.i.length cgi, .slice agh m.h.length cgh, .slice age m.e.length cge, .int .i64 m.z] 34) = V := ⟨_, rfl⟩
  have hbx : Bk V2 w4.heap.size 34 #[.int .i64 m.n, .int .i64 m.s, .slice agi m.i.length cgi, .slice agh m.h.length cgh, .slice age m.e.length cge, .int .i64 m.z] := by rw [← hV2]; exact Bk.new _ _ _
  have hb : Below w4.heap.size w4 V2 := by rw [← hV2]; exact (Below.refl _ _).alloc (Nat.le_refl _) _
  have HX0b_V2 : Hid (Bk V2 w4.heap.size 34 #[.int .i64 m.n, .int .i64 m.s, .slice agi m.i.length cgi, .slice agh m.h.length cgh, .slice age m.e.length cge, .int .i64 m.z]) := hbx
  have hV_V2 : w4.heap.size < V2.heap.size := hbx.lt
  have z_V2 : w4.heap.size ≤ V2.heap.size := hb.size
  have HB_V2 : Hid (Below w.heap.size w V2) := HB_w4.out.trans (hb.mono HB_w4.out.size)
  have HL_V2 : Hid (Below V1.heap.size V1 V2) := HL_w4.out.trans (hb.mono HL_w4.out.size)
  have HR_V2 : Hid (By.RowI V2 V1.heap.size l0) := HR_w4.out.below hb (by omega)
  have HG_V2 : Hid (MdF (fun k => w3.heap.size ≤ k ∧ k < w4.heap.size) V2 (.agg #[.int .i64 m.n, .int .i64 m.s, .slice agi m.i.length cgi, .slice agh m.h.length cgh, .slice age m.e.length cge, .int .i64 m.z]) m) := HG_w4.out.below hb
  clear HB_w4 HL_w4 HR_w4 HG_w4
  clear hb hbx
  have hcc_r := HX0b_V2.out
  have r0 := hcc_r.cell (i := 0) rfl
  have r1 := hcc_r.cell (i := 1) rfl
  have r2 := hcc_r.cell (i := 2) rfl
  have r3 := hcc_r.cell (i := 3) rfl
  have r4 := hcc_r.cell (i := 4) rfl
  have r5 := hcc_r.cell (i := 5) rfl
  clear hcc_r
  have hcc_s := HXS.out.below HL_V2.out
  have s0 := hcc_s.cell (i := 0) rfl
  have s1 := hcc_s.cell (i := 1) rfl
  have s2 := hcc_s.cell (i := 2) rfl
  have s3 := hcc_s.cell (i := 3) rfl
  have s4 := hcc_s.cell (i := 4) rfl
  have s5 := hcc_s.cell (i := 5) rfl
  clear hcc_s
  go_wp2_with fail
  clear hV2
  refine (eqModel_same _ _ m _ HSM.out HG_V2.out.isM (HIS.out.below HL_V2.out)).mono ?_
  rintro e w5 ⟨rfl, hb⟩
  have z_w5 : V2.heap.size ≤ w5.heap.size := hb.size
  have HB_w5 : Hid (Below w.heap.size w w5) := HB_V2.out.trans (hb.mono HB_V2.out.size)
  have HL_w5 : Hid (Below V1.heap.size V1 w5) := HL_V2.out.trans (hb.mono HL_V2.out.size)
  have HR_w5 : Hid (By.RowI w5 V1.heap.size l0) := HR_V2.out.below hb (by omega)
  have HG_w5 : Hid (MdF (fun k => w3.heap.size ≤ k ∧ k < w4.heap.size) w5 (.agg #[.int .i64 m.n, .int .i64 m.s, .slice agi m.i.length cgi, .slice agh m.h.length cgh, .slice age m.e.length cge, .int .i64 m.z]) m) := HG_V2.out.below hb
  have HX0b_w5 : Hid (Bk w5 w4.heap.size 34 #[.int .i64 m.n, .int .i64 m.s, .slice agi m.i.length cgi, .slice agh m.h.length cgh, .slice age m.e.length cge, .int .i64 m.z]) := HX0b_V2.out.below hb
  clear HB_V2 HL_V2 HR_V2 HG_V2 HX0b_V2
  clear hb
  clear r0 r1 r2 r3 r4 r5 s0 s1 s2 s3 s4 s5
  go_wp2_with fail
  refine (By.toI_any _ l0 _ hl0 (HX0.out.below HB_w5.out)).mono ?_
  rintro e w6 ⟨rfl, hb, hr⟩
  have y_w6 : w5.heap.size < w6.heap.size := hr.1
  have HT_w6 : Hid (By.RowI w6 w5.heap.size l0) := hr
  have z_w6 : w5.heap.size ≤ w6.heap.size := hb.size
  have HB_w6 : Hid (Below w.heap.size w w6) := HB_w5.out.trans (hb.mono HB_w5.out.size)
  have HL_w6 : Hid (Below V1.heap.size V1 w6) := HL_w5.out.trans (hb.mono HL_w5.out.size)
  have HR_w6 : Hid (By.RowI w6 V1.heap.size l0) := HR_w5.out.below hb (by omega)
  have HG_w6 : Hid (MdF (fun k => w3.heap.size ≤ k ∧ k < w4.heap.size) w6 (.agg #[.int .i64 m.n, .int .i64 m.s, .slice agi m.i.length cgi, .slice agh m.h.length cgh, .slice age m.e.length cge, .int .i64 m.z]) m) := HG_w5.out.below hb
  have HX0b_w6 : Hid (Bk w6 w4.heap.size 34 #[.int .i64 m.n, .int .i64 m.s, .slice agi m.i.length cgi, .slice agh m.h.length cgh, .slice age m.e.length cge, .int .i64 m.z]) := HX0b_w5.out.below hb
  clear HB_w5 HL_w5 HR_w5 HG_w5 HX0b_w5
  clear hb hr
  go_wp2_with fail
  refine (By.eqI_same _ _ l0 _ (by omega) (HR_w6.out.isI (by unfold maxLen; omega)) (HT_w6.out.isI (by unfold maxLen; omega))).mono ?_
  rintro e w7 ⟨rfl, hb⟩
  have z_w7 : w6.heap.size ≤ w7.heap.size := hb.size
  have HB_w7 : Hid (Below w.heap.size w w7) := HB_w6.out.trans (hb.mono HB_w6.out.size)
  have HL_w7 : Hid (Below V1.heap.size V1 w7) := HL_w6.out.trans (hb.mono HL_w6.out.size)
  have HR_w7 : Hid (By.RowI w7 V1.heap.size l0) := HR_w6.out.below hb (by omega)
  have HG_w7 : Hid (MdF (fun k => w3.heap.size ≤ k ∧ k < w4.heap.size) w7 (.agg #[.int .i64 m.n, .int .i64 m.s, .slice agi m.i.length cgi, .slice agh m.h.length cgh, .slice age m.e.length cge, .int .i64 m.z]) m) := HG_w6.out.below hb
  have HX0b_w7 : Hid (Bk w7 w4.heap.size 34 #[.int .i64 m.n, .int .i64 m.s, .slice agi m.i.length cgi, .slice agh m.h.length cgh, .slice age m.e.length cge, .int .i64 m.z]) := HX0b_w6.out.below hb
  clear HB_w6 HL_w6 HR_w6 HG_w6 HX0b_w6 HT_w6
  clear hb
  go_wp2_with fail
  refine (By.markI_any V1.heap.size l0.length l0.length _ (by omega) HR_w7.out.mark).mono ?_
  rintro e w8 ⟨rfl, _, hg⟩
  have z_w8 : w7.heap.size ≤ w8.heap.size := hg.size
  have hbx : Below V1.heap.size w7 w8 := (Below.refl _ w7).grown hg (by omega) (fun k e => by cases e; exact Nat.le_refl _)
  have HB_w8 : Hid (Below w.heap.size w w8) := HB_w7.out.trans (hbx.mono (by omega))
  have HL_w8 : Hid (Below V1.heap.size V1 w8) := HL_w7.out.trans (hbx.mono (by omega))
  have HG_w8 : Hid (MdF (fun k => w3.heap.size ≤ k ∧ k < w4.heap.size) w8 (.agg #[.int .i64 m.n, .int .i64 m.s, .slice agi m.i.length cgi, .slice agh m.h.length cgh, .slice age m.e.length cge, .int .i64 m.z]) m) := HG_w7.out.turns (grown_turns hg) (fun k e h => by cases h; omega)
  have HX0b_w8 : Hid (Bk w8 w4.heap.size 34 #[.int .i64 m.n, .int .i64 m.s, .slice agi m.i.length cgi, .slice agh m.h.length cgh, .slice age m.e.length cge, .int .i64 m.z]) := HX0b_w7.out.turns (grown_turns hg) (fun h => by have := Option.some.inj h; omega)
  clear hg hbx HB_w7 HL_w7 HG_w7 HX0b_w7 HR_w7
  have hcc_r := HX0b_w8.out
  have r0 := hcc_r.cell (i := 0) rfl
  have r1 := hcc_r.cell (i := 1) rfl
  have r2 := hcc_r.cell (i := 2) rfl
  have r3 := hcc_r.cell (i := 3) rfl
  have r4 := hcc_r.cell (i := 4) rfl
  have r5 := hcc_r.cell (i := 5) rfl
  clear hcc_r
  have hcc_s := HXS.out.below HL_w8.out
  have s0 := hcc_s.cell (i := 0) rfl
  have s1 := hcc_s.cell (i := 1) rfl
  have s2 := hcc_s.cell (i := 2) rfl
  have s3 := hcc_s.cell (i := 3) rfl
  have s4 := hcc_s.cell (i := 4) rfl
  have s5 := hcc_s.cell (i := 5) rfl
  clear hcc_s
  go_wp2_with fail
  refine (eqModel_same _ _ m _ HSM.out HG_w8.out.isM (HIS.out.below HL_w8.out)).mono ?_
  rintro e w9 ⟨rfl, hb⟩
  have z_w9 : w8.heap.size ≤ w9.heap.size := hb.size
  have HB_w9 : Hid (Below w.heap.size w w9) := HB_w8.out.trans (hb.mono HB_w8.out.size)
  have HL_w9 : Hid (Below V1.heap.size V1 w9) := HL_w8.out.trans (hb.mono HL_w8.out.size)
  have HG_w9 : Hid (MdF (fun k => w3.heap.size ≤ k ∧ k < w4.heap.size) w9 (.agg #[.int .i64 m.n, .int .i64 m.s, .slice agi m.i.length cgi, .slice agh m.h.length cgh, .slice age m.e.length cge, .int .i64 m.z]) m) := HG_w8.out.below hb
  have HX0b_w9 : Hid (Bk w9 w4.heap.size 34 #[.int .i64 m.n, .int .i64 m.s, .slice agi m.i.length cgi, .slice agh m.h.length cgh, .slice age m.e.length cge, .int .i64 m.z]) := HX0b_w8.out.below hb
  clear HB_w8 HL_w8 HG_w8 HX0b_w8
  clear hb
  clear r0 r1 r2 r3 r4 r5 s0 s1 s2 s3 s4 s5
  have hcc_r := HX0b_w9.out
  have r0 := hcc_r.cell (i := 0) rfl
  have r1 := hcc_r.cell (i := 1) rfl
  have r2 := hcc_r.cell (i := 2) rfl
  have r3 := hcc_r.cell (i := 3) rfl
  have r4 := hcc_r.cell (i := 4) rfl
  have r5 := hcc_r.cell (i := 5) rfl
  clear hcc_r
  go_wp2_with fail
  have hcx : w4.heap.size < w9.heap.size := HX0b_w9.out.lt
  refine (markModel_any HSM.out HG_w9.out (fun k e => by omega)).mono ?_
  rintro e w10 ⟨rfl, hh, ht⟩
  have z_w10 : w9.heap.size ≤ w10.heap.size := ht.size
  have HB_w10 : Hid (Below w.heap.size w w10) := HB_w9.out.trans (ht.to_below (fun k e => by omega) (by omega))
  have HL_w10 : Hid (Below V1.heap.size V1 w10) := HL_w9.out.trans (ht.to_below (fun k e => by omega) (by omega))
  have HX0b_w10 : Hid (Bk w10 w4.heap.size 34 #[.int .i64 m.n, .int .i64 m.s, .slice agi m.i.length cgi, .slice agh m.h.length cgh, .slice age m.e.length cge, .int .i64 m.z]) := HX0b_w9.out.turns ht (fun e => by omega)
  have HH_w10 : Hid (HeldM (fun k => w3.heap.size ≤ k ∧ k < w4.heap.size) w10 (.agg #[.int .i64 m.n, .int .i64 m.s, .slice agi m.i.length cgi, .slice agh m.h.length cgh, .slice age m.e.length cge, .int .i64 m.z]) m) := hh
  clear hh ht HB_w9 HL_w9 HG_w9 HX0b_w9 hcx
  clear r0 r1 r2 r3 r4 r5
  have hcc_r := HX0b_w10.out
  have r0 := hcc_r.cell (i := 0) rfl
  have r1 := hcc_r.cell (i := 1) rfl
  have r2 := hcc_r.cell (i := 2) rfl
  have r3 := hcc_r.cell (i := 3) rfl
  have r4 := hcc_r.cell (i := 4) rfl
  have r5 := hcc_r.cell (i := 5) rfl
  clear hcc_r
  go_wp2_with fail
  refine (heldModel_any HSM.out HH_w10.out).mono ?_
  rintro e w11 ⟨rfl, hb⟩
  have z_w11 : w10.heap.size ≤ w11.heap.size := hb.size
  have HB_w11 : Hid (Below w.heap.size w w11) := HB_w10.out.trans (hb.mono HB_w10.out.size)
  have HL_w11 : Hid (Below V1.heap.size V1 w11) := HL_w10.out.trans (hb.mono HL_w10.out.size)
  have HX0b_w11 : Hid (Bk w11 w4.heap.size 34 #[.int .i64 m.n, .int .i64 m.s, .slice agi m.i.length cgi, .slice agh m.h.length cgh, .slice age m.e.length cge, .int .i64 m.z]) := HX0b_w10.out.below hb
  have HH_w11 : Hid (HeldM (fun k => w3.heap.size ≤ k ∧ k < w4.heap.size) w11 (.agg #[.int .i64 m.n, .int .i64 m.s, .slice agi m.i.length cgi, .slice agh m.h.length cgh, .slice age m.e.length cge, .int .i64 m.z]) m) := HH_w10.out.turns (S := fun _ => False) (Turns.of_below hb) (fun _ _ => id)
  clear HB_w10 HL_w10 HX0b_w10 HH_w10
  clear hb
  clear r0 r1 r2 r3 r4 r5
  go_wp2_with fail
  refine (By.toI_any _ l0 _ hl0 (HX0.out.below HB_w11.out)).mono ?_
  rintro e w12 ⟨rfl, hb, hr⟩
  have y_w12 : w11.heap.size < w12.heap.size := hr.1
  have HT_w12 : Hid (By.RowI w12 w11.heap.size l0) := hr
  have z_w12 : w11.heap.size ≤ w12.heap.size := hb.size
  have HB_w12 : Hid (Below w.heap.size w w12) := HB_w11.out.trans (hb.mono HB_w11.out.size)
  have HL_w12 : Hid (Below V1.heap.size V1 w12) := HL_w11.out.trans (hb.mono HL_w11.out.size)
  have HX0b_w12 : Hid (Bk w12 w4.heap.size 34 #[.int .i64 m.n, .int .i64 m.s, .slice agi m.i.length cgi, .slice agh m.h.length cgh, .slice age m.e.length cge, .int .i64 m.z]) := HX0b_w11.out.below hb
  have HH_w12 : Hid (HeldM (fun k => w3.heap.size ≤ k ∧ k < w4.heap.size) w12 (.agg #[.int .i64 m.n, .int .i64 m.s, .slice agi m.i.length cgi, .slice agh m.h.length cgh, .slice age m.e.length cge, .int .i64 m.z]) m) := HH_w11.out.turns (S := fun _ => False) (Turns.of_below hb) (fun _ _ => id)
  clear HB_w11 HL_w11 HX0b_w11 HH_w11
  clear hb hr
  go_wp2_with fail
  refine (HIM.out _ _ (HT_w12.out.isI (by unfold maxLen; omega))).mono ?_
  rintro e w13 ⟨yk, rfl, hb, hm⟩
  obtain ⟨aki, cki, akh, ckh, ake, cke, rfl⟩ := hm.form
  have HK : Hid (IsM w13 (.agg #[.int .i64 m.n, .int .i64 m.s, .slice aki m.i.length cki, .slice akh m.h.length ckh, .slice ake m.e.length cke, .int .i64 m.z]) m) := hm.isM
  have z_w13 : w12.heap.size ≤ w13.heap.size := hb.size
  have HB_w13 : Hid (Below w.heap.size w w13) := HB_w12.out.trans (hb.mono HB_w12.out.size)
  have HL_w13 : Hid (Below V1.heap.size V1 w13) := HL_w12.out.trans (hb.mono HL_w12.out.size)
  have HX0b_w13 : Hid (Bk w13 w4.heap.size 34 #[.int .i64 m.n, .int .i64 m.s, .slice agi m.i.length cgi, .slice agh m.h.length cgh, .slice age m.e.length cge, .int .i64 m.z]) := HX0b_w12.out.below hb
  have HH_w13 : Hid (HeldM (fun k => w3.heap.size ≤ k ∧ k < w4.heap.size) w13 (.agg #[.int .i64 m.n, .int .i64 m.s, .slice agi m.i.length cgi, .slice agh m.h.length cgh, .slice age m.e.length cge, .int .i64 m.z]) m) := HH_w12.out.turns (S := fun _ => False) (Turns.of_below hb) (fun _ _ => id)
  clear HB_w12 HL_w12 HX0b_w12 HH_w12 HT_w12
  clear hb hm HIM
  obtain ⟨V3, hV3⟩ : ∃ V, w13.alloc (.cells #[.int .i64 m.n, .int .i64 m.s, .slice aki m.i.length cki, .slice akh m.h.length ckh, .slice ake m.e.length cke, .int .i64 m.z] 34) = V := ⟨_, rfl⟩
  have hbx : Bk V3 w13.heap.size 34 #[.int .i64 m.n, .int .i64 m.s, .slice aki m.i.length cki, .slice akh m.h.length ckh, .slice ake m.e.length cke, .int .i64 m.z] := by rw [← hV3]; exact Bk.new _ _ _
  have hb : Below w13.heap.size w13 V3 := by rw [← hV3]; exact (Below.refl _ _).alloc (Nat.le_refl _) _
  have HXK_V3 : Hid (Bk V3 w13.heap.size 34 #[.int .i64 m.n, .int .i64 m.s, .slice aki m.i.length cki, .slice akh m.h.length ckh, .slice ake m.e.length cke, .int .i64 m.z]) := hbx
  have hV_V3 : w13.heap.size < V3.heap.size := hbx.lt
  have HK3 : Hid (IsM V3 (.agg #[.int .i64 m.n, .int .i64 m.s, .slice aki m.i.length cki, .slice akh m.h.length ckh, .slice ake m.e.length cke, .int .i64 m.z]) m) := HK.out.below hb
  have z_V3 : w13.heap.size ≤ V3.heap.size := hb.size
  have HB_V3 : Hid (Below w.heap.size w V3) := HB_w13.out.trans (hb.mono HB_w13.out.size)
  have HL_V3 : Hid (Below V1.heap.size V1 V3) := HL_w13.out.trans (hb.mono HL_w13.out.size)
  have HX0b_V3 : Hid (Bk V3 w4.heap.size 34 #[.int .i64 m.n, .int .i64 m.s, .slice agi m.i.length cgi, .slice agh m.h.length cgh, .slice age m.e.length cge, .int .i64 m.z]) := HX0b_w13.out.below hb
  have HH_V3 : Hid (HeldM (fun k => w3.heap.size ≤ k ∧ k < w4.heap.size) V3 (.agg #[.int .i64 m.n, .int .i64 m.s, .slice agi m.i.length cgi, .slice agh m.h.length cgh, .slice age m.e.length cge, .int .i64 m.z]) m) := HH_w13.out.turns (S := fun _ => False) (Turns.of_below hb) (fun _ _ => id)
  clear HB_w13 HL_w13 HX0b_w13 HH_w13
  clear hb hbx HK
  have hcc_v := HXK_V3.out
  have v0 := hcc_v.cell (i := 0) rfl
  have v1 := hcc_v.cell (i := 1) rfl
  have v2 := hcc_v.cell (i := 2) rfl
  have v3 := hcc_v.cell (i := 3) rfl
  have v4 := hcc_v.cell (i := 4) rfl
  have v5 := hcc_v.cell (i := 5) rfl
  clear hcc_v
  have hcc_s := HXS.out.below HL_V3.out
  have s0 := hcc_s.cell (i := 0) rfl
  have s1 := hcc_s.cell (i := 1) rfl
  have s2 := hcc_s.cell (i := 2) rfl
  have s3 := hcc_s.cell (i := 3) rfl
  have s4 := hcc_s.cell (i := 4) rfl
  have s5 := hcc_s.cell (i := 5) rfl
  clear hcc_s
  go_wp2_with fail
  clear hV3
  refine (eqModel_same _ _ m _ HSM.out HK3.out (HIS.out.below HL_V3.out)).mono ?_
  rintro e w14 ⟨rfl, hb⟩
  have z_w14 : V3.heap.size ≤ w14.heap.size := hb.size
  have HB_w14 : Hid (Below w.heap.size w w14) := HB_V3.out.trans (hb.mono HB_V3.out.size)
  have HL_w14 : Hid (Below V1.heap.size V1 w14) := HL_V3.out.trans (hb.mono HL_V3.out.size)
  have HX0b_w14 : Hid (Bk w14 w4.heap.size 34 #[.int .i64 m.n, .int .i64 m.s, .slice agi m.i.length cgi, .slice agh m.h.length cgh, .slice age m.e.length cge, .int .i64 m.z]) := HX0b_V3.out.below hb
  have HH_w14 : Hid (HeldM (fun k => w3.heap.size ≤ k ∧ k < w4.heap.size) w14 (.agg #[.int .i64 m.n, .int .i64 m.s, .slice agi m.i.length cgi, .slice agh m.h.length cgh, .slice age m.e.length cge, .int .i64 m.z]) m) := HH_V3.out.turns (S := fun _ => False) (Turns.of_below hb) (fun _ _ => id)
  clear HB_V3 HL_V3 HX0b_V3 HH_V3
  clear hb
  clear v0 v1 v2 v3 v4 v5 s0 s1 s2 s3 s4 s5
  clear HK3 HXK_V3
  have hcc_r := HX0b_w14.out
  have r0 := hcc_r.cell (i := 0) rfl
  have r1 := hcc_r.cell (i := 1) rfl
  have r2 := hcc_r.cell (i := 2) rfl
  have r3 := hcc_r.cell (i := 3) rfl
  have r4 := hcc_r.cell (i := 4) rfl
  have r5 := hcc_r.cell (i := 5) rfl
  clear hcc_r
  go_wp2_with fail
  refine (heldModel_any HSM.out HH_w14.out).mono ?_
  rintro e w15 ⟨rfl, hb⟩
  have z_w15 : w14.heap.size ≤ w15.heap.size := hb.size
  have HB_w15 : Hid (Below w.heap.size w w15) := HB_w14.out.trans (hb.mono HB_w14.out.size)
  have HL_w15 : Hid (Below V1.heap.size V1 w15) := HL_w14.out.trans (hb.mono HL_w14.out.size)
  have HX0b_w15 : Hid (Bk w15 w4.heap.size 34 #[.int .i64 m.n, .int .i64 m.s, .slice agi m.i.length cgi, .slice agh m.h.length cgh, .slice age m.e.length cge, .int .i64 m.z]) := HX0b_w14.out.below hb
  have HH_w15 : Hid (HeldM (fun k => w3.heap.size ≤ k ∧ k < w4.heap.size) w15 (.agg #[.int .i64 m.n, .int .i64 m.s, .slice agi m.i.length cgi, .slice agh m.h.length cgh, .slice age m.e.length cge, .int .i64 m.z]) m) := HH_w14.out.turns (S := fun _ => False) (Turns.of_below hb) (fun _ _ => id)
  clear HB_w14 HL_w14 HX0b_w14 HH_w14
  clear hb
  clear r0 r1 r2 r3 r4 r5
  go_wp2
  go_ret
  exact ⟨rfl, HB_w15.out⟩

set_option maxRecDepth 100000 in
theorem lifted (os : Os) (started : os.Started) (H : Type) (enc : TypeId × Value → H) :
    ReturnsInHanded {} Try.checked os 6 .any (Rows.fnExactModelReadSpec.pre6 enc Try.prog Try.f6 Rows.fnExactModelReadRow.domain false) (Rows.fnExactModelReadSpec.post enc Try.prog Try.f6 false true false false) := by
  refine returnsInHanded_of_change (C := Try.checked) own started (by kernel_rfl) Try.func6
    (ChangeSpec.witness6 (enc := enc) (C := Try.checked) false ⟨#[], #[.slice none 0 0], []⟩ 8 (by kernel_rfl) (by kernel_rfl) (by kernel_rfl) (by kernel_rfl)) ?_
  intro W base args ds gs before hval0 hW hcnd _
  have hval : ∀ (j : Nat) t v, Try.f6.params[j]? = some t → args[j]? = some v → Value.okWide Try.prog W .any base t v := hval0
  have hW' := hW
  obtain ⟨p, q, hA0, hV, rfl, hfz, hnd⟩ := hW
  have hA : DataW.TrodAll enc Try.prog W 0 (fun _ => true) true Try.f6.params.toList args.toList ds p := hA0
  rw [Try.params6] at hA hval
  obtain ⟨v0, vs0, d0, ds0, p0, q0, hargs, rfl, rfl, h0, r0⟩ := trodAll_cons hA
  obtain ⟨rfl, rfl, rfl⟩ := trodAll_nil r0
  obtain rfl : args = #[v0] := by cases args; simp_all
  obtain ⟨rfl, rfl⟩ := trodVars_none hV
  have kk0 := h0
  have lt0 : ∀ x ∈ p0, x.block < W.heap.size := by obtain ⟨m, hm⟩ := kk0; exact DataW.trod_lt m _ _ _ hm
  obtain ⟨l0, g0⟩ := By.open_bytes' (hval 0 42 v0 rfl rfl) h0
  clear hA0 hval0
  refine (walk v0 l0 W g0).mono fun e W' ⟨he, bel⟩ => ?_
  subst he
  exact ⟨_, rfl, _, _, _, [], _, [], hW', trodAll_mk1 (shut_bool Try.underlying4 _), (trodAll_cons_mk (Below.trod laidOut (by kernel_rfl) (of_decide_eq_true (by kernel_rfl)) kk0 bel lt0) trodAll_mk0), rfl, bel.frame _, fun h => by cases h⟩

theorem over : Rows.fnExactModelReadRow.holds Try.pinned (OpenSpec.ofChange Rows.fnExactModelReadSpec) :=
  OpenClaim.holds_of_wide 6 Try.f6 rfl rfl rfl rfl rfl rfl rfl ⟨rfl, rfl, rfl, rfl, rfl⟩ rfl rfl rfl rfl rfl (by kernel_rfl) Try.func6 (by kernel_rfl)
    (of_decide_eq_true (by kernel_rfl)) (by unfold Func.isWrapper; first | (rw [if_pos (by decide +kernel)]; kernel_rfl) | (rw [if_neg (by decide +kernel)]; exact ⟨rfl, rfl⟩))
    (fun os started H enc _ => lifted os started H enc)
end Go.Proofs.Ythjabkfnmcodbaa.LawExactModelRead
namespace Go.Proofs.Ythjabkfnmcodbaa
theorem modelRead_holds : Rows.FnExactModelReadSaid := LawExactModelRead.over
#print axioms modelRead_holds
end Go.Proofs.Ythjabkfnmcodbaa
