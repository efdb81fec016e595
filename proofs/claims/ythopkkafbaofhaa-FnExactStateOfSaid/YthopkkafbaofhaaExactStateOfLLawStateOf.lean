/- At every model and every number the program's StateOf answers as the specification's, its answer owns its memory, and it writes into nothing that it is given; no condition. -/
import Derived.Test.YthopkkafbaofhaaExactStateOfG17
import Derived.Test.YthopkkafbaofhaaExactStateOfG18
namespace Go.Proofs.Ythopkkafbaofhaa.LawExactStateOf
open Go.ChangeShapes Go.WideShapes Go.ChangeAt Go.RowKit Go.Proofs.Ythopkkafbaofhaa

set_option maxRecDepth 100000 in
set_option maxHeartbeats 16000000 in
theorem walk (x : Value) (m : Md) (lp : Int) (w : World) (hx : IsM w x m) (_hlp : wfI lp) :
    Calls Try.prog 4 #[x, .int .i64 lp] w fun e w' => e = .returned (.bool true) ∧ Below w.heap.size w w' := by
  have HX : Hid (IsM w x m) := hx
  obtain ⟨vi0, vh0, vs0, rfl, _⟩ := hx
  obtain ⟨W0, hW0⟩ : ∃ W0, w.alloc (.cells #[.int .i64 m.n, .int .i64 m.s, vi0, vh0, vs0, .int .i64 m.z] 34) = W0 := ⟨_, rfl⟩
  have HB_W0 : Hid (Below w.heap.size w W0) := by rw [← hW0]; exact (Below.refl _ w).alloc (Nat.le_refl _) _
  have HP_W0 : Hid (Bk W0 w.heap.size 34 #[.int .i64 m.n, .int .i64 m.s, vi0, vh0, vs0, .int .i64 m.z]) := by rw [← hW0]; exact Bk.new w _ _
  have p0 := HP_W0.out.cell (i := 0) rfl
  have p1 := HP_W0.out.cell (i := 1) rfl
  have p2 := HP_W0.out.cell (i := 2) rfl
  have p3 := HP_W0.out.cell (i := 3) rfl
  have p4 := HP_W0.out.cell (i := 4) rfl
  have p5 := HP_W0.out.cell (i := 5) rfl
  have hP0 : w.heap.size < W0.heap.size := HP_W0.out.lt
  clear _hlp
  go_enter Try.func4, Try.ntmps4
  go_wp2_with fail
  clear hW0
  clear p0 p1 p2 p3 p4 p5
  refine (szModel_any _ m _ (HX.out.below HB_W0.out)).mono ?_
  rintro e w1 ⟨⟨r, rfl, hr⟩, hb⟩
  have z_w1 : W0.heap.size ≤ w1.heap.size := hb.size
  have HB_w1 : Hid (Below w.heap.size w w1) := HB_W0.out.trans (hb.mono HB_W0.out.size)
  have HP_w1 : Hid (Bk w1 w.heap.size 34 #[.int .i64 m.n, .int .i64 m.s, vi0, vh0, vs0, .int .i64 m.z]) := HP_W0.out.below hb
  clear HB_W0 HP_W0
  clear hb
  rcases hr with rfl | ⟨hr0, hsm⟩
  case inl =>
    go_wp2
    go_ret
    exact ⟨rfl, HB_w1.out⟩
  have hr1 : ¬ (r < 0) := by omega
  have HSM : Hid (SmallM m) := hsm
  clear hsm hr0
  have HC : Hid (∃ r b, r.r.length ≤ 1048576 ∧ (∀ (v0 : Value) (W : World), IsM W v0 m → Calls Try.prog 11 #[v0, .int .i64 lp] W fun e w' => ∃ y, e = .returned (.tuple #[y, .bool b]) ∧ Below W.heap.size W w' ∧ StF (fun k => W.heap.size ≤ k ∧ k < w'.heap.size) w' y r) ∧ (∀ (v0 : Value) (W : World), IsM W v0 m → Calls Try.prog 13 #[v0, .int .i64 lp] W fun e w' => ∃ y, e = .returned (.tuple #[y, .bool b]) ∧ Below W.heap.size W w' ∧ StF (fun k => W.heap.size ≤ k ∧ k < w'.heap.size) w' y r)) := ⟨stateOfR m lp, m.ok && isPart m lp, (by unfold stateOfR; split <;> simp [firstS, zeroS]), fun v0 W h0 => sStateOf v0 m lp W HSM.out h0, fun v0 W h0 => iStateOf v0 m lp W HSM.out h0⟩
  obtain ⟨q, b, hq, hsp, him⟩ := HC.out
  have HSP : Hid (∀ (v0 : Value) (W : World), IsM W v0 m → Calls Try.prog 11 #[v0, .int .i64 lp] W fun e w' => ∃ y, e = .returned (.tuple #[y, .bool b]) ∧ Below W.heap.size W w' ∧ StF (fun k => W.heap.size ≤ k ∧ k < w'.heap.size) w' y q) := hsp
  have HIM : Hid (∀ (v0 : Value) (W : World), IsM W v0 m → Calls Try.prog 13 #[v0, .int .i64 lp] W fun e w' => ∃ y, e = .returned (.tuple #[y, .bool b]) ∧ Below W.heap.size W w' ∧ StF (fun k => W.heap.size ≤ k ∧ k < w'.heap.size) w' y q) := him
  have HQ : Hid (q.r.length ≤ 1048576) := hq
  clear HC hsp him hq
  have p0 := HP_w1.out.cell (i := 0) rfl
  have p1 := HP_w1.out.cell (i := 1) rfl
  have p2 := HP_w1.out.cell (i := 2) rfl
  have p3 := HP_w1.out.cell (i := 3) rfl
  have p4 := HP_w1.out.cell (i := 4) rfl
  have p5 := HP_w1.out.cell (i := 5) rfl
  go_wp2_with fail
  clear p0 p1 p2 p3 p4 p5
  refine (toModel_any _ m _ HSM.out (HX.out.below HB_w1.out)).mono ?_
  rintro e w2 ⟨y0, rfl, hb, hr⟩
  have z_w2 : w1.heap.size ≤ w2.heap.size := hb.size
  have HB_w2 : Hid (Below w.heap.size w w2) := HB_w1.out.trans (hb.mono HB_w1.out.size)
  have HP_w2 : Hid (Bk w2 w.heap.size 34 #[.int .i64 m.n, .int .i64 m.s, vi0, vh0, vs0, .int .i64 m.z]) := HP_w1.out.below hb
  clear HB_w1 HP_w1
  have HT_w2 : Hid (MdF (fun k => w1.heap.size ≤ k ∧ k < w2.heap.size) w2 y0 m) := hr
  clear hb hr
  go_wp2_with fail
  refine (HSP.out _ _ HT_w2.out.isM).mono ?_
  rintro e w3 ⟨yo, rfl, hb, hr⟩
  obtain ⟨ao, co, rfl⟩ := hr.form
  have z_w3 : w2.heap.size ≤ w3.heap.size := hb.size
  have HB_w3 : Hid (Below w.heap.size w w3) := HB_w2.out.trans (hb.mono HB_w2.out.size)
  have HP_w3 : Hid (Bk w3 w.heap.size 34 #[.int .i64 m.n, .int .i64 m.s, vi0, vh0, vs0, .int .i64 m.z]) := HP_w2.out.below hb
  clear HB_w2 HP_w2 HT_w2
  have HS_w3 : Hid (StF (fun k => w2.heap.size ≤ k ∧ k < w3.heap.size) w3 (.agg #[.slice ao q.r.length co, .int .i64 q.q, .int .i64 q.d]) q) := hr
  clear hb hr
  obtain ⟨Vw3, hVw3⟩ : ∃ V, w3.alloc (.cells #[.slice ao q.r.length co, .int .i64 q.q, .int .i64 q.d] 27) = V := ⟨_, rfl⟩
  have BHSb : Bk Vw3 w3.heap.size 27 #[.slice ao q.r.length co, .int .i64 q.q, .int .i64 q.d] := by rw [← hVw3]; exact Bk.new _ _ _
  have hb : Below w3.heap.size w3 Vw3 := by rw [← hVw3]; exact (Below.refl _ _).alloc (Nat.le_refl _) _
  have y_Vw3 : w3.heap.size < Vw3.heap.size := BHSb.lt
  have z_Vw3 : w3.heap.size ≤ Vw3.heap.size := hb.size
  have HB_Vw3 : Hid (Below w.heap.size w Vw3) := HB_w3.out.trans (hb.mono HB_w3.out.size)
  have HP_Vw3 : Hid (Bk Vw3 w.heap.size 34 #[.int .i64 m.n, .int .i64 m.s, vi0, vh0, vs0, .int .i64 m.z]) := HP_w3.out.below hb
  have HS_Vw3 : Hid (StF (fun k => w2.heap.size ≤ k ∧ k < w3.heap.size) Vw3 (.agg #[.slice ao q.r.length co, .int .i64 q.q, .int .i64 q.d]) q) := HS_w3.out.below hb
  clear HB_w3 HP_w3 HS_w3
  clear hb
  have HSb_Vw3 : Hid (Bk Vw3 w3.heap.size 27 #[.slice ao q.r.length co, .int .i64 q.q, .int .i64 q.d]) := BHSb
  clear BHSb
  have g0 := HSb_Vw3.out.cell (i := 0) rfl
  have g1 := HSb_Vw3.out.cell (i := 1) rfl
  have g2 := HSb_Vw3.out.cell (i := 2) rfl
  clear HSP
  have p0 := HP_Vw3.out.cell (i := 0) rfl
  have p1 := HP_Vw3.out.cell (i := 1) rfl
  have p2 := HP_Vw3.out.cell (i := 2) rfl
  have p3 := HP_Vw3.out.cell (i := 3) rfl
  have p4 := HP_Vw3.out.cell (i := 4) rfl
  have p5 := HP_Vw3.out.cell (i := 5) rfl
  go_wp2_with fail
  clear hVw3
  clear p0 p1 p2 p3 p4 p5
  clear g0 g1 g2
  refine (toModel_any _ m _ HSM.out (HX.out.below HB_Vw3.out)).mono ?_
  rintro e w4 ⟨y1, rfl, hb, hr⟩
  have z_w4 : Vw3.heap.size ≤ w4.heap.size := hb.size
  have HB_w4 : Hid (Below w.heap.size w w4) := HB_Vw3.out.trans (hb.mono HB_Vw3.out.size)
  have HP_w4 : Hid (Bk w4 w.heap.size 34 #[.int .i64 m.n, .int .i64 m.s, vi0, vh0, vs0, .int .i64 m.z]) := HP_Vw3.out.below hb
  have HS_w4 : Hid (StF (fun k => w2.heap.size ≤ k ∧ k < w3.heap.size) w4 (.agg #[.slice ao q.r.length co, .int .i64 q.q, .int .i64 q.d]) q) := HS_Vw3.out.below hb
  have HSb_w4 : Hid (Bk w4 w3.heap.size 27 #[.slice ao q.r.length co, .int .i64 q.q, .int .i64 q.d]) := HSb_Vw3.out.below hb
  clear HB_Vw3 HP_Vw3 HS_Vw3 HSb_Vw3
  have HR_w4 : Hid (MdF (fun k => Vw3.heap.size ≤ k ∧ k < w4.heap.size) w4 y1 m) := hr
  clear hb hr
  obtain ⟨aui, cui, auh, cuh, aue, cue, rfl⟩ := HR_w4.out.form
  obtain ⟨Vw4, hVw4⟩ : ∃ V, w4.alloc (.cells #[.int .i64 m.n, .int .i64 m.s, .slice aui m.i.length cui, .slice auh m.h.length cuh, .slice aue m.e.length cue, .int .i64 m.z] 41) = V := ⟨_, rfl⟩
  have BHX0 : Bk Vw4 w4.heap.size 41 #[.int .i64 m.n, .int .i64 m.s, .slice aui m.i.length cui, .slice auh m.h.length cuh, .slice aue m.e.length cue, .int .i64 m.z] := by rw [← hVw4]; exact Bk.new _ _ _
  have hb : Below w4.heap.size w4 Vw4 := by rw [← hVw4]; exact (Below.refl _ _).alloc (Nat.le_refl _) _
  have y_Vw4 : w4.heap.size < Vw4.heap.size := BHX0.lt
  have z_Vw4 : w4.heap.size ≤ Vw4.heap.size := hb.size
  have HB_Vw4 : Hid (Below w.heap.size w Vw4) := HB_w4.out.trans (hb.mono HB_w4.out.size)
  have HP_Vw4 : Hid (Bk Vw4 w.heap.size 34 #[.int .i64 m.n, .int .i64 m.s, vi0, vh0, vs0, .int .i64 m.z]) := HP_w4.out.below hb
  have HS_Vw4 : Hid (StF (fun k => w2.heap.size ≤ k ∧ k < w3.heap.size) Vw4 (.agg #[.slice ao q.r.length co, .int .i64 q.q, .int .i64 q.d]) q) := HS_w4.out.below hb
  have HSb_Vw4 : Hid (Bk Vw4 w3.heap.size 27 #[.slice ao q.r.length co, .int .i64 q.q, .int .i64 q.d]) := HSb_w4.out.below hb
  have HR_Vw4 : Hid (MdF (fun k => Vw3.heap.size ≤ k ∧ k < w4.heap.size) Vw4 (.agg #[.int .i64 m.n, .int .i64 m.s, .slice aui m.i.length cui, .slice auh m.h.length cuh, .slice aue m.e.length cue, .int .i64 m.z]) m) := HR_w4.out.below hb
  clear HB_w4 HP_w4 HS_w4 HSb_w4 HR_w4
  clear hb
  have HX0_Vw4 : Hid (Bk Vw4 w4.heap.size 41 #[.int .i64 m.n, .int .i64 m.s, .slice aui m.i.length cui, .slice auh m.h.length cuh, .slice aue m.e.length cue, .int .i64 m.z]) := BHX0
  clear BHX0
  have r0 := HX0_Vw4.out.cell (i := 0) rfl
  have r1 := HX0_Vw4.out.cell (i := 1) rfl
  have r2 := HX0_Vw4.out.cell (i := 2) rfl
  have r3 := HX0_Vw4.out.cell (i := 3) rfl
  have r4 := HX0_Vw4.out.cell (i := 4) rfl
  have r5 := HX0_Vw4.out.cell (i := 5) rfl
  go_wp2_with fail
  clear hVw4
  clear r0 r1 r2 r3 r4 r5
  refine (HIM.out _ _ HR_Vw4.out.isM).mono ?_
  rintro e w5 ⟨yg, rfl, hb, hr⟩
  obtain ⟨ag, cg, rfl⟩ := hr.form
  have z_w5 : Vw4.heap.size ≤ w5.heap.size := hb.size
  have HB_w5 : Hid (Below w.heap.size w w5) := HB_Vw4.out.trans (hb.mono HB_Vw4.out.size)
  have HP_w5 : Hid (Bk w5 w.heap.size 34 #[.int .i64 m.n, .int .i64 m.s, vi0, vh0, vs0, .int .i64 m.z]) := HP_Vw4.out.below hb
  have HS_w5 : Hid (StF (fun k => w2.heap.size ≤ k ∧ k < w3.heap.size) w5 (.agg #[.slice ao q.r.length co, .int .i64 q.q, .int .i64 q.d]) q) := HS_Vw4.out.below hb
  have HSb_w5 : Hid (Bk w5 w3.heap.size 27 #[.slice ao q.r.length co, .int .i64 q.q, .int .i64 q.d]) := HSb_Vw4.out.below hb
  have HR_w5 : Hid (MdF (fun k => Vw3.heap.size ≤ k ∧ k < w4.heap.size) w5 (.agg #[.int .i64 m.n, .int .i64 m.s, .slice aui m.i.length cui, .slice auh m.h.length cuh, .slice aue m.e.length cue, .int .i64 m.z]) m) := HR_Vw4.out.below hb
  have HX0_w5 : Hid (Bk w5 w4.heap.size 41 #[.int .i64 m.n, .int .i64 m.s, .slice aui m.i.length cui, .slice auh m.h.length cuh, .slice aue m.e.length cue, .int .i64 m.z]) := HX0_Vw4.out.below hb
  clear HB_Vw4 HP_Vw4 HS_Vw4 HSb_Vw4 HR_Vw4 HX0_Vw4
  have HG_w5 : Hid (StF (fun k => Vw4.heap.size ≤ k ∧ k < w5.heap.size) w5 (.agg #[.slice ag q.r.length cg, .int .i64 q.q, .int .i64 q.d]) q) := hr
  clear hb hr
  obtain ⟨Vw5, hVw5⟩ : ∃ V, w5.alloc (.cells #[.slice ag q.r.length cg, .int .i64 q.q, .int .i64 q.d] 27) = V := ⟨_, rfl⟩
  have BHGb : Bk Vw5 w5.heap.size 27 #[.slice ag q.r.length cg, .int .i64 q.q, .int .i64 q.d] := by rw [← hVw5]; exact Bk.new _ _ _
  have hb : Below w5.heap.size w5 Vw5 := by rw [← hVw5]; exact (Below.refl _ _).alloc (Nat.le_refl _) _
  have y_Vw5 : w5.heap.size < Vw5.heap.size := BHGb.lt
  have z_Vw5 : w5.heap.size ≤ Vw5.heap.size := hb.size
  have HB_Vw5 : Hid (Below w.heap.size w Vw5) := HB_w5.out.trans (hb.mono HB_w5.out.size)
  have HP_Vw5 : Hid (Bk Vw5 w.heap.size 34 #[.int .i64 m.n, .int .i64 m.s, vi0, vh0, vs0, .int .i64 m.z]) := HP_w5.out.below hb
  have HS_Vw5 : Hid (StF (fun k => w2.heap.size ≤ k ∧ k < w3.heap.size) Vw5 (.agg #[.slice ao q.r.length co, .int .i64 q.q, .int .i64 q.d]) q) := HS_w5.out.below hb
  have HSb_Vw5 : Hid (Bk Vw5 w3.heap.size 27 #[.slice ao q.r.length co, .int .i64 q.q, .int .i64 q.d]) := HSb_w5.out.below hb
  have HR_Vw5 : Hid (MdF (fun k => Vw3.heap.size ≤ k ∧ k < w4.heap.size) Vw5 (.agg #[.int .i64 m.n, .int .i64 m.s, .slice aui m.i.length cui, .slice auh m.h.length cuh, .slice aue m.e.length cue, .int .i64 m.z]) m) := HR_w5.out.below hb
  have HX0_Vw5 : Hid (Bk Vw5 w4.heap.size 41 #[.int .i64 m.n, .int .i64 m.s, .slice aui m.i.length cui, .slice auh m.h.length cuh, .slice aue m.e.length cue, .int .i64 m.z]) := HX0_w5.out.below hb
  have HG_Vw5 : Hid (StF (fun k => Vw4.heap.size ≤ k ∧ k < w5.heap.size) Vw5 (.agg #[.slice ag q.r.length cg, .int .i64 q.q, .int .i64 q.d]) q) := HG_w5.out.below hb
  clear HB_w5 HP_w5 HS_w5 HSb_w5 HR_w5 HX0_w5 HG_w5
  clear hb
  have HGb_Vw5 : Hid (Bk Vw5 w5.heap.size 27 #[.slice ag q.r.length cg, .int .i64 q.q, .int .i64 q.d]) := BHGb
  clear BHGb
  have g0 := HGb_Vw5.out.cell (i := 0) rfl
  have g1 := HGb_Vw5.out.cell (i := 1) rfl
  have g2 := HGb_Vw5.out.cell (i := 2) rfl
  have t0 := HSb_Vw5.out.cell (i := 0) rfl
  have t1 := HSb_Vw5.out.cell (i := 1) rfl
  have t2 := HSb_Vw5.out.cell (i := 2) rfl
  go_wp2_with fail
  clear hVw5
  clear g0 g1 g2
  clear t0 t1 t2
  refine (eqState_same _ _ q _ HQ.out HG_Vw5.out.isS HS_Vw5.out.isS).mono ?_
  rintro e w6 ⟨rfl, hb⟩
  have z_w6 : Vw5.heap.size ≤ w6.heap.size := hb.size
  have HB_w6 : Hid (Below w.heap.size w w6) := HB_Vw5.out.trans (hb.mono HB_Vw5.out.size)
  have HP_w6 : Hid (Bk w6 w.heap.size 34 #[.int .i64 m.n, .int .i64 m.s, vi0, vh0, vs0, .int .i64 m.z]) := HP_Vw5.out.below hb
  have HS_w6 : Hid (StF (fun k => w2.heap.size ≤ k ∧ k < w3.heap.size) w6 (.agg #[.slice ao q.r.length co, .int .i64 q.q, .int .i64 q.d]) q) := HS_Vw5.out.below hb
  have HSb_w6 : Hid (Bk w6 w3.heap.size 27 #[.slice ao q.r.length co, .int .i64 q.q, .int .i64 q.d]) := HSb_Vw5.out.below hb
  have HR_w6 : Hid (MdF (fun k => Vw3.heap.size ≤ k ∧ k < w4.heap.size) w6 (.agg #[.int .i64 m.n, .int .i64 m.s, .slice aui m.i.length cui, .slice auh m.h.length cuh, .slice aue m.e.length cue, .int .i64 m.z]) m) := HR_Vw5.out.below hb
  have HX0_w6 : Hid (Bk w6 w4.heap.size 41 #[.int .i64 m.n, .int .i64 m.s, .slice aui m.i.length cui, .slice auh m.h.length cuh, .slice aue m.e.length cue, .int .i64 m.z]) := HX0_Vw5.out.below hb
  have HG_w6 : Hid (StF (fun k => Vw4.heap.size ≤ k ∧ k < w5.heap.size) w6 (.agg #[.slice ag q.r.length cg, .int .i64 q.q, .int .i64 q.d]) q) := HG_Vw5.out.below hb
  have HGb_w6 : Hid (Bk w6 w5.heap.size 27 #[.slice ag q.r.length cg, .int .i64 q.q, .int .i64 q.d]) := HGb_Vw5.out.below hb
  clear HB_Vw5 HP_Vw5 HS_Vw5 HSb_Vw5 HR_Vw5 HX0_Vw5 HG_Vw5 HGb_Vw5
  clear hb
  have p0 := HP_w6.out.cell (i := 0) rfl
  have p1 := HP_w6.out.cell (i := 1) rfl
  have p2 := HP_w6.out.cell (i := 2) rfl
  have p3 := HP_w6.out.cell (i := 3) rfl
  have p4 := HP_w6.out.cell (i := 4) rfl
  have p5 := HP_w6.out.cell (i := 5) rfl
  have r0 := HX0_w6.out.cell (i := 0) rfl
  have r1 := HX0_w6.out.cell (i := 1) rfl
  have r2 := HX0_w6.out.cell (i := 2) rfl
  have r3 := HX0_w6.out.cell (i := 3) rfl
  have r4 := HX0_w6.out.cell (i := 4) rfl
  have r5 := HX0_w6.out.cell (i := 5) rfl
  go_wp2_with fail
  have hzz : w.heap.size < w6.heap.size := by omega
  have hzy : w4.heap.size < w6.heap.size := by omega
  go_region_held3 (fun W => W.cell? ⟨w.heap.size, 0, none⟩ = some (.int .i64 m.n) ∧ W.cell? ⟨w.heap.size, 1, none⟩ = some (.int .i64 m.s) ∧ W.cell? ⟨w.heap.size, 2, none⟩ = some vi0 ∧ W.cell? ⟨w.heap.size, 3, none⟩ = some vh0 ∧ W.cell? ⟨w.heap.size, 4, none⟩ = some vs0 ∧ W.cell? ⟨w.heap.size, 5, none⟩ = some (.int .i64 m.z) ∧ W.cell? ⟨w4.heap.size, 0, none⟩ = some (.int .i64 m.n) ∧ W.cell? ⟨w4.heap.size, 1, none⟩ = some (.int .i64 m.s) ∧ W.cell? ⟨w4.heap.size, 2, none⟩ = some (.slice aui m.i.length cui) ∧ W.cell? ⟨w4.heap.size, 3, none⟩ = some (.slice auh m.h.length cuh) ∧ W.cell? ⟨w4.heap.size, 4, none⟩ = some (.slice aue m.e.length cue) ∧ W.cell? ⟨w4.heap.size, 5, none⟩ = some (.int .i64 m.z)) ((repeat' apply And.intro) <;> first | (go_keep; done) | (rw [hcA _ _ (by first | omega | (simp; omega))]; simp [*]; done))
    (first | (go_at_call 12; refine (toModel_any _ m _ HSM.out (HX.out.below HB_w6.out.drew)).mono ?_; rintro e w7 ⟨y2, rfl, hbw7, hr2⟩; obtain ⟨hcA, hfA⟩ := bcell hbw7; have hzw7 : w6.heap.size ≤ w7.heap.size := hbw7.size) | (go_at_call 14; refine (eqModel_same _ _ m _ HSM.out (HR_w6.out.below ((Below.refl _ w6).drew.trans hbw7)).isM hr2.isM).mono ?_; rintro e w8 ⟨rfl, hbw8⟩; obtain ⟨hcA, hfA⟩ := bcell hbw8; have hzw8 : w7.heap.size ≤ w8.heap.size := hbw8.size))
  clear hcA hfA
  have hbc : Below w6.heap.size w6 w8 := ((Below.refl w6.heap.size w6).drew.trans (hbw7.mono (Nat.le_refl _))).trans (hbw8.mono (by omega))
  clear p0 p1 p2 p3 p4 p5
  clear r0 r1 r2 r3 r4 r5
  have z_w8 : w6.heap.size ≤ w8.heap.size := hbc.size
  have HB_w8 : Hid (Below w.heap.size w w8) := HB_w6.out.trans (hbc.mono HB_w6.out.size)
  have HP_w8 : Hid (Bk w8 w.heap.size 34 #[.int .i64 m.n, .int .i64 m.s, vi0, vh0, vs0, .int .i64 m.z]) := HP_w6.out.below hbc
  have HS_w8 : Hid (StF (fun k => w2.heap.size ≤ k ∧ k < w3.heap.size) w8 (.agg #[.slice ao q.r.length co, .int .i64 q.q, .int .i64 q.d]) q) := HS_w6.out.below hbc
  have HSb_w8 : Hid (Bk w8 w3.heap.size 27 #[.slice ao q.r.length co, .int .i64 q.q, .int .i64 q.d]) := HSb_w6.out.below hbc
  have HR_w8 : Hid (MdF (fun k => Vw3.heap.size ≤ k ∧ k < w4.heap.size) w8 (.agg #[.int .i64 m.n, .int .i64 m.s, .slice aui m.i.length cui, .slice auh m.h.length cuh, .slice aue m.e.length cue, .int .i64 m.z]) m) := HR_w6.out.below hbc
  have HX0_w8 : Hid (Bk w8 w4.heap.size 41 #[.int .i64 m.n, .int .i64 m.s, .slice aui m.i.length cui, .slice auh m.h.length cuh, .slice aue m.e.length cue, .int .i64 m.z]) := HX0_w6.out.below hbc
  have HG_w8 : Hid (StF (fun k => Vw4.heap.size ≤ k ∧ k < w5.heap.size) w8 (.agg #[.slice ag q.r.length cg, .int .i64 q.q, .int .i64 q.d]) q) := HG_w6.out.below hbc
  have HGb_w8 : Hid (Bk w8 w5.heap.size 27 #[.slice ag q.r.length cg, .int .i64 q.q, .int .i64 q.d]) := HGb_w6.out.below hbc
  clear HB_w6 HP_w6 HS_w6 HSb_w6 HR_w6 HX0_w6 HG_w6 HGb_w6
  clear hbc hr2 hbw7 hzw7 hbw8 hzw8 hzz hzy
  have r0 := HX0_w8.out.cell (i := 0) rfl
  have r1 := HX0_w8.out.cell (i := 1) rfl
  have r2 := HX0_w8.out.cell (i := 2) rfl
  have r3 := HX0_w8.out.cell (i := 3) rfl
  have r4 := HX0_w8.out.cell (i := 4) rfl
  have r5 := HX0_w8.out.cell (i := 5) rfl
  go_wp2_with fail
  clear r0 r1 r2 r3 r4 r5
  refine (markModel_any HSM.out HR_w8.out (fun k e => by omega)).mono ?_
  rintro e w9 ⟨rfl, _, ht⟩
  have z_w9 : w8.heap.size ≤ w9.heap.size := ht.size
  have HB_w9 : Hid (Below w.heap.size w w9) := HB_w8.out.trans (ht.to_below (fun k e => by omega) (by omega))
  have HP_w9 : Hid (Bk w9 w.heap.size 34 #[.int .i64 m.n, .int .i64 m.s, vi0, vh0, vs0, .int .i64 m.z]) := HP_w8.out.turns ht (fun e => by omega)
  have HS_w9 : Hid (StF (fun k => w2.heap.size ≤ k ∧ k < w3.heap.size) w9 (.agg #[.slice ao q.r.length co, .int .i64 q.q, .int .i64 q.d]) q) := HS_w8.out.turns ht (fun k e => by omega)
  have HSb_w9 : Hid (Bk w9 w3.heap.size 27 #[.slice ao q.r.length co, .int .i64 q.q, .int .i64 q.d]) := HSb_w8.out.turns ht (fun e => by omega)
  have HG_w9 : Hid (StF (fun k => Vw4.heap.size ≤ k ∧ k < w5.heap.size) w9 (.agg #[.slice ag q.r.length cg, .int .i64 q.q, .int .i64 q.d]) q) := HG_w8.out.turns ht (fun k e => by omega)
  have HGb_w9 : Hid (Bk w9 w5.heap.size 27 #[.slice ag q.r.length cg, .int .i64 q.q, .int .i64 q.d]) := HGb_w8.out.turns ht (fun e => by omega)
  clear HB_w8 HP_w8 HS_w8 HSb_w8 HR_w8 HX0_w8 HG_w8 HGb_w8
  clear ht
  have hkn : ¬ (markNo m < 0) := by have := markNo_pos m; omega
  have g0 := HGb_w9.out.cell (i := 0) rfl
  have g1 := HGb_w9.out.cell (i := 1) rfl
  have g2 := HGb_w9.out.cell (i := 2) rfl
  have t0 := HSb_w9.out.cell (i := 0) rfl
  have t1 := HSb_w9.out.cell (i := 1) rfl
  have t2 := HSb_w9.out.cell (i := 2) rfl
  go_wp2_with fail
  clear g0 g1 g2
  clear t0 t1 t2
  refine (eqState_same _ _ q _ HQ.out HG_w9.out.isS HS_w9.out.isS).mono ?_
  rintro e w10 ⟨rfl, hb⟩
  have z_w10 : w9.heap.size ≤ w10.heap.size := hb.size
  have HB_w10 : Hid (Below w.heap.size w w10) := HB_w9.out.trans (hb.mono HB_w9.out.size)
  have HP_w10 : Hid (Bk w10 w.heap.size 34 #[.int .i64 m.n, .int .i64 m.s, vi0, vh0, vs0, .int .i64 m.z]) := HP_w9.out.below hb
  have HS_w10 : Hid (StF (fun k => w2.heap.size ≤ k ∧ k < w3.heap.size) w10 (.agg #[.slice ao q.r.length co, .int .i64 q.q, .int .i64 q.d]) q) := HS_w9.out.below hb
  have HSb_w10 : Hid (Bk w10 w3.heap.size 27 #[.slice ao q.r.length co, .int .i64 q.q, .int .i64 q.d]) := HSb_w9.out.below hb
  have HG_w10 : Hid (StF (fun k => Vw4.heap.size ≤ k ∧ k < w5.heap.size) w10 (.agg #[.slice ag q.r.length cg, .int .i64 q.q, .int .i64 q.d]) q) := HG_w9.out.below hb
  have HGb_w10 : Hid (Bk w10 w5.heap.size 27 #[.slice ag q.r.length cg, .int .i64 q.q, .int .i64 q.d]) := HGb_w9.out.below hb
  clear HB_w9 HP_w9 HS_w9 HSb_w9 HG_w9 HGb_w9
  clear hb
  have g0 := HGb_w10.out.cell (i := 0) rfl
  have g1 := HGb_w10.out.cell (i := 1) rfl
  have g2 := HGb_w10.out.cell (i := 2) rfl
  go_wp2_with fail
  clear g0 g1 g2
  have hq1 : q.r.length ≤ 1048577 := by have := HQ.out; omega
  refine (markState_any 1 hq1 (by omega) (by omega) HG_w10.out).mono ?_
  rintro e w11 ⟨rfl, hh, ht⟩
  have z_w11 : w10.heap.size ≤ w11.heap.size := ht.size
  have HB_w11 : Hid (Below w.heap.size w w11) := HB_w10.out.trans (ht.to_below (fun k e => by omega) (by omega))
  have HP_w11 : Hid (Bk w11 w.heap.size 34 #[.int .i64 m.n, .int .i64 m.s, vi0, vh0, vs0, .int .i64 m.z]) := HP_w10.out.turns ht (fun e => by omega)
  have HS_w11 : Hid (StF (fun k => w2.heap.size ≤ k ∧ k < w3.heap.size) w11 (.agg #[.slice ao q.r.length co, .int .i64 q.q, .int .i64 q.d]) q) := HS_w10.out.turns ht (fun k e => by omega)
  have HSb_w11 : Hid (Bk w11 w3.heap.size 27 #[.slice ao q.r.length co, .int .i64 q.q, .int .i64 q.d]) := HSb_w10.out.turns ht (fun e => by omega)
  have HGb_w11 : Hid (Bk w11 w5.heap.size 27 #[.slice ag q.r.length cg, .int .i64 q.q, .int .i64 q.d]) := HGb_w10.out.turns ht (fun e => by omega)
  clear HB_w10 HP_w10 HS_w10 HSb_w10 HG_w10 HGb_w10
  have HH_w11 : Hid (HeldS (fun k => Vw4.heap.size ≤ k ∧ k < w5.heap.size) w11 (.agg #[.slice ag q.r.length cg, .int .i64 q.q, .int .i64 q.d]) q 1) := hh
  clear hh ht
  have g0 := HGb_w11.out.cell (i := 0) rfl
  have g1 := HGb_w11.out.cell (i := 1) rfl
  have g2 := HGb_w11.out.cell (i := 2) rfl
  go_wp2_with fail
  clear g0 g1 g2
  have hmn : ¬ (1 + (q.r.length : Int) < 0) := by omega
  refine (heldState_any 1 hq1 (by omega) (by omega) HH_w11.out).mono ?_
  rintro e w12 ⟨rfl, hb⟩
  have z_w12 : w11.heap.size ≤ w12.heap.size := hb.size
  have HB_w12 : Hid (Below w.heap.size w w12) := HB_w11.out.trans (hb.mono HB_w11.out.size)
  have HP_w12 : Hid (Bk w12 w.heap.size 34 #[.int .i64 m.n, .int .i64 m.s, vi0, vh0, vs0, .int .i64 m.z]) := HP_w11.out.below hb
  have HS_w12 : Hid (StF (fun k => w2.heap.size ≤ k ∧ k < w3.heap.size) w12 (.agg #[.slice ao q.r.length co, .int .i64 q.q, .int .i64 q.d]) q) := HS_w11.out.below hb
  have HSb_w12 : Hid (Bk w12 w3.heap.size 27 #[.slice ao q.r.length co, .int .i64 q.q, .int .i64 q.d]) := HSb_w11.out.below hb
  have HGb_w12 : Hid (Bk w12 w5.heap.size 27 #[.slice ag q.r.length cg, .int .i64 q.q, .int .i64 q.d]) := HGb_w11.out.below hb
  have HH_w12 : Hid (HeldS (fun k => Vw4.heap.size ≤ k ∧ k < w5.heap.size) w12 (.agg #[.slice ag q.r.length cg, .int .i64 q.q, .int .i64 q.d]) q 1) := HH_w11.out.below hb
  clear HB_w11 HP_w11 HS_w11 HSb_w11 HGb_w11 HH_w11
  clear hb
  have p0 := HP_w12.out.cell (i := 0) rfl
  have p1 := HP_w12.out.cell (i := 1) rfl
  have p2 := HP_w12.out.cell (i := 2) rfl
  have p3 := HP_w12.out.cell (i := 3) rfl
  have p4 := HP_w12.out.cell (i := 4) rfl
  have p5 := HP_w12.out.cell (i := 5) rfl
  go_wp2_with fail
  clear p0 p1 p2 p3 p4 p5
  refine (toModel_any _ m _ HSM.out (HX.out.below HB_w12.out)).mono ?_
  rintro e w13 ⟨y3, rfl, hb, hr⟩
  have z_w13 : w12.heap.size ≤ w13.heap.size := hb.size
  have HB_w13 : Hid (Below w.heap.size w w13) := HB_w12.out.trans (hb.mono HB_w12.out.size)
  have HP_w13 : Hid (Bk w13 w.heap.size 34 #[.int .i64 m.n, .int .i64 m.s, vi0, vh0, vs0, .int .i64 m.z]) := HP_w12.out.below hb
  have HS_w13 : Hid (StF (fun k => w2.heap.size ≤ k ∧ k < w3.heap.size) w13 (.agg #[.slice ao q.r.length co, .int .i64 q.q, .int .i64 q.d]) q) := HS_w12.out.below hb
  have HSb_w13 : Hid (Bk w13 w3.heap.size 27 #[.slice ao q.r.length co, .int .i64 q.q, .int .i64 q.d]) := HSb_w12.out.below hb
  have HGb_w13 : Hid (Bk w13 w5.heap.size 27 #[.slice ag q.r.length cg, .int .i64 q.q, .int .i64 q.d]) := HGb_w12.out.below hb
  have HH_w13 : Hid (HeldS (fun k => Vw4.heap.size ≤ k ∧ k < w5.heap.size) w13 (.agg #[.slice ag q.r.length cg, .int .i64 q.q, .int .i64 q.d]) q 1) := HH_w12.out.below hb
  clear HB_w12 HP_w12 HS_w12 HSb_w12 HGb_w12 HH_w12
  have HT_w13 : Hid (MdF (fun k => w12.heap.size ≤ k ∧ k < w13.heap.size) w13 y3 m) := hr
  clear hb hr
  go_wp2_with fail
  refine (HIM.out _ _ HT_w13.out.isM).mono ?_
  rintro e w14 ⟨yk, rfl, hb, hr⟩
  obtain ⟨ak, ck, rfl⟩ := hr.form
  have z_w14 : w13.heap.size ≤ w14.heap.size := hb.size
  have HB_w14 : Hid (Below w.heap.size w w14) := HB_w13.out.trans (hb.mono HB_w13.out.size)
  have HP_w14 : Hid (Bk w14 w.heap.size 34 #[.int .i64 m.n, .int .i64 m.s, vi0, vh0, vs0, .int .i64 m.z]) := HP_w13.out.below hb
  have HS_w14 : Hid (StF (fun k => w2.heap.size ≤ k ∧ k < w3.heap.size) w14 (.agg #[.slice ao q.r.length co, .int .i64 q.q, .int .i64 q.d]) q) := HS_w13.out.below hb
  have HSb_w14 : Hid (Bk w14 w3.heap.size 27 #[.slice ao q.r.length co, .int .i64 q.q, .int .i64 q.d]) := HSb_w13.out.below hb
  have HGb_w14 : Hid (Bk w14 w5.heap.size 27 #[.slice ag q.r.length cg, .int .i64 q.q, .int .i64 q.d]) := HGb_w13.out.below hb
  have HH_w14 : Hid (HeldS (fun k => Vw4.heap.size ≤ k ∧ k < w5.heap.size) w14 (.agg #[.slice ag q.r.length cg, .int .i64 q.q, .int .i64 q.d]) q 1) := HH_w13.out.below hb
  clear HB_w13 HP_w13 HS_w13 HSb_w13 HGb_w13 HH_w13 HT_w13
  have HK_w14 : Hid (StF (fun k => w13.heap.size ≤ k ∧ k < w14.heap.size) w14 (.agg #[.slice ak q.r.length ck, .int .i64 q.q, .int .i64 q.d]) q) := hr
  clear hb hr
  obtain ⟨Vw14, hVw14⟩ : ∃ V, w14.alloc (.cells #[.slice ak q.r.length ck, .int .i64 q.q, .int .i64 q.d] 27) = V := ⟨_, rfl⟩
  have BHKb : Bk Vw14 w14.heap.size 27 #[.slice ak q.r.length ck, .int .i64 q.q, .int .i64 q.d] := by rw [← hVw14]; exact Bk.new _ _ _
  have hb : Below w14.heap.size w14 Vw14 := by rw [← hVw14]; exact (Below.refl _ _).alloc (Nat.le_refl _) _
  have y_Vw14 : w14.heap.size < Vw14.heap.size := BHKb.lt
  have z_Vw14 : w14.heap.size ≤ Vw14.heap.size := hb.size
  have HB_Vw14 : Hid (Below w.heap.size w Vw14) := HB_w14.out.trans (hb.mono HB_w14.out.size)
  have HP_Vw14 : Hid (Bk Vw14 w.heap.size 34 #[.int .i64 m.n, .int .i64 m.s, vi0, vh0, vs0, .int .i64 m.z]) := HP_w14.out.below hb
  have HS_Vw14 : Hid (StF (fun k => w2.heap.size ≤ k ∧ k < w3.heap.size) Vw14 (.agg #[.slice ao q.r.length co, .int .i64 q.q, .int .i64 q.d]) q) := HS_w14.out.below hb
  have HSb_Vw14 : Hid (Bk Vw14 w3.heap.size 27 #[.slice ao q.r.length co, .int .i64 q.q, .int .i64 q.d]) := HSb_w14.out.below hb
  have HGb_Vw14 : Hid (Bk Vw14 w5.heap.size 27 #[.slice ag q.r.length cg, .int .i64 q.q, .int .i64 q.d]) := HGb_w14.out.below hb
  have HH_Vw14 : Hid (HeldS (fun k => Vw4.heap.size ≤ k ∧ k < w5.heap.size) Vw14 (.agg #[.slice ag q.r.length cg, .int .i64 q.q, .int .i64 q.d]) q 1) := HH_w14.out.below hb
  have HK_Vw14 : Hid (StF (fun k => w13.heap.size ≤ k ∧ k < w14.heap.size) Vw14 (.agg #[.slice ak q.r.length ck, .int .i64 q.q, .int .i64 q.d]) q) := HK_w14.out.below hb
  clear HB_w14 HP_w14 HS_w14 HSb_w14 HGb_w14 HH_w14 HK_w14
  clear hb
  have HKb_Vw14 : Hid (Bk Vw14 w14.heap.size 27 #[.slice ak q.r.length ck, .int .i64 q.q, .int .i64 q.d]) := BHKb
  clear BHKb
  have g0 := HKb_Vw14.out.cell (i := 0) rfl
  have g1 := HKb_Vw14.out.cell (i := 1) rfl
  have g2 := HKb_Vw14.out.cell (i := 2) rfl
  clear HIM
  have t0 := HSb_Vw14.out.cell (i := 0) rfl
  have t1 := HSb_Vw14.out.cell (i := 1) rfl
  have t2 := HSb_Vw14.out.cell (i := 2) rfl
  go_wp2_with fail
  clear hVw14
  clear g0 g1 g2
  clear t0 t1 t2
  refine (eqState_same _ _ q _ HQ.out HK_Vw14.out.isS HS_Vw14.out.isS).mono ?_
  rintro e w15 ⟨rfl, hb⟩
  have z_w15 : Vw14.heap.size ≤ w15.heap.size := hb.size
  have HB_w15 : Hid (Below w.heap.size w w15) := HB_Vw14.out.trans (hb.mono HB_Vw14.out.size)
  have HP_w15 : Hid (Bk w15 w.heap.size 34 #[.int .i64 m.n, .int .i64 m.s, vi0, vh0, vs0, .int .i64 m.z]) := HP_Vw14.out.below hb
  have HS_w15 : Hid (StF (fun k => w2.heap.size ≤ k ∧ k < w3.heap.size) w15 (.agg #[.slice ao q.r.length co, .int .i64 q.q, .int .i64 q.d]) q) := HS_Vw14.out.below hb
  have HSb_w15 : Hid (Bk w15 w3.heap.size 27 #[.slice ao q.r.length co, .int .i64 q.q, .int .i64 q.d]) := HSb_Vw14.out.below hb
  have HGb_w15 : Hid (Bk w15 w5.heap.size 27 #[.slice ag q.r.length cg, .int .i64 q.q, .int .i64 q.d]) := HGb_Vw14.out.below hb
  have HH_w15 : Hid (HeldS (fun k => Vw4.heap.size ≤ k ∧ k < w5.heap.size) w15 (.agg #[.slice ag q.r.length cg, .int .i64 q.q, .int .i64 q.d]) q 1) := HH_Vw14.out.below hb
  have HK_w15 : Hid (StF (fun k => w13.heap.size ≤ k ∧ k < w14.heap.size) w15 (.agg #[.slice ak q.r.length ck, .int .i64 q.q, .int .i64 q.d]) q) := HK_Vw14.out.below hb
  have HKb_w15 : Hid (Bk w15 w14.heap.size 27 #[.slice ak q.r.length ck, .int .i64 q.q, .int .i64 q.d]) := HKb_Vw14.out.below hb
  clear HB_Vw14 HP_Vw14 HS_Vw14 HSb_Vw14 HGb_Vw14 HH_Vw14 HK_Vw14 HKb_Vw14
  clear hb
  have g0 := HGb_w15.out.cell (i := 0) rfl
  have g1 := HGb_w15.out.cell (i := 1) rfl
  have g2 := HGb_w15.out.cell (i := 2) rfl
  go_wp2_with fail
  clear g0 g1 g2
  refine (heldState_any 1 hq1 (by omega) (by omega) HH_w15.out).mono ?_
  rintro e w16 ⟨rfl, hb⟩
  have z_w16 : w15.heap.size ≤ w16.heap.size := hb.size
  have HB_w16 : Hid (Below w.heap.size w w16) := HB_w15.out.trans (hb.mono HB_w15.out.size)
  have HP_w16 : Hid (Bk w16 w.heap.size 34 #[.int .i64 m.n, .int .i64 m.s, vi0, vh0, vs0, .int .i64 m.z]) := HP_w15.out.below hb
  have HS_w16 : Hid (StF (fun k => w2.heap.size ≤ k ∧ k < w3.heap.size) w16 (.agg #[.slice ao q.r.length co, .int .i64 q.q, .int .i64 q.d]) q) := HS_w15.out.below hb
  have HSb_w16 : Hid (Bk w16 w3.heap.size 27 #[.slice ao q.r.length co, .int .i64 q.q, .int .i64 q.d]) := HSb_w15.out.below hb
  have HGb_w16 : Hid (Bk w16 w5.heap.size 27 #[.slice ag q.r.length cg, .int .i64 q.q, .int .i64 q.d]) := HGb_w15.out.below hb
  have HH_w16 : Hid (HeldS (fun k => Vw4.heap.size ≤ k ∧ k < w5.heap.size) w16 (.agg #[.slice ag q.r.length cg, .int .i64 q.q, .int .i64 q.d]) q 1) := HH_w15.out.below hb
  have HK_w16 : Hid (StF (fun k => w13.heap.size ≤ k ∧ k < w14.heap.size) w16 (.agg #[.slice ak q.r.length ck, .int .i64 q.q, .int .i64 q.d]) q) := HK_w15.out.below hb
  have HKb_w16 : Hid (Bk w16 w14.heap.size 27 #[.slice ak q.r.length ck, .int .i64 q.q, .int .i64 q.d]) := HKb_w15.out.below hb
  clear HB_w15 HP_w15 HS_w15 HSb_w15 HGb_w15 HH_w15 HK_w15 HKb_w15
  clear hb
  go_wp2
  go_ret
  exact ⟨rfl, HB_w16.out⟩

set_option maxRecDepth 100000 in
theorem lifted (os : Os) (started : os.Started) (H : Type) (enc : TypeId × Value → H) :
    ReturnsInHanded {} Try.checked os 4 .any (Rows.fnExactStateOfSpec.pre6 enc Try.prog Try.f4 Rows.fnExactStateOfRow.domain false) (Rows.fnExactStateOfSpec.post enc Try.prog Try.f4 false true false false) := by
  refine returnsInHanded_of_change (C := Try.checked) own started (by kernel_rfl) Try.func4
    (ChangeSpec.witness6 (enc := enc) (C := Try.checked) false ⟨#[], #[.agg #[.int .i64 0, .int .i64 0, .slice none 0 0, .slice none 0 0, .slice none 0 0, .int .i64 0], .int .i64 0], []⟩ 8 (by kernel_rfl) (by kernel_rfl) (by kernel_rfl) (by kernel_rfl)) ?_
  intro W base args ds gs before hval0 hW hcnd _
  have hval : ∀ (j : Nat) t v, Try.f4.params[j]? = some t → args[j]? = some v → Value.okWide Try.prog W .any base t v := hval0
  have hW' := hW
  obtain ⟨p, q, hA0, hV, rfl, hfz, hnd⟩ := hW
  have hA : DataW.TrodAll enc Try.prog W 0 (fun _ => true) true Try.f4.params.toList args.toList ds p := hA0
  rw [Try.params4] at hA hval
  obtain ⟨v0, vs0, d0, ds0, p0, q0, hargs, rfl, rfl, h0, r0⟩ := trodAll_cons hA
  obtain ⟨v1, vs1, d1, ds1, p1, q1, rfl, rfl, rfl, h1, r1⟩ := trodAll_cons r0
  obtain ⟨rfl, rfl, rfl⟩ := trodAll_nil r1
  obtain rfl : args = #[v0, v1] := by cases args; simp_all
  obtain ⟨rfl, rfl⟩ := trodVars_none hV
  have kk0 := h0
  have lt0 : ∀ x ∈ p0, x.block < W.heap.size := by obtain ⟨m, hm⟩ := kk0; exact DataW.trod_lt m _ _ _ hm
  have kk1 := h1
  have lt1 : ∀ x ∈ p1, x.block < W.heap.size := by obtain ⟨m, hm⟩ := kk1; exact DataW.trod_lt m _ _ _ hm
  obtain ⟨l0, g0⟩ := open_model (hval 0 34 v0 rfl rfl) h0
  obtain ⟨x1, rfl, rfl, rfl, u1⟩ := open_int Try.underlying3 (hval 1 3 v1 rfl rfl) h1
  clear hA0 hval0
  refine (walk v0 l0 x1 W g0 u1).mono fun e W' ⟨he, bel⟩ => ?_
  subst he
  exact ⟨_, rfl, _, _, _, [], _, [], hW', trodAll_mk1 (shut_bool Try.underlying4 _), (trodAll_cons_mk (Below.trod laidOut (by kernel_rfl) (of_decide_eq_true (by kernel_rfl)) kk0 bel lt0) (trodAll_cons_mk (shut_int Try.underlying3 u1) trodAll_mk0)), rfl, bel.frame _, fun h => by cases h⟩

theorem over : Rows.fnExactStateOfRow.holds Try.pinned (OpenSpec.ofChange Rows.fnExactStateOfSpec) :=
  OpenClaim.holds_of_wide 4 Try.f4 rfl rfl rfl rfl rfl rfl rfl ⟨rfl, rfl, rfl, rfl, rfl⟩ rfl rfl rfl rfl rfl (by kernel_rfl) Try.func4 (by kernel_rfl)
    (of_decide_eq_true (by kernel_rfl)) (by unfold Func.isWrapper; first | (rw [if_pos (by decide +kernel)]; kernel_rfl) | (rw [if_neg (by decide +kernel)]; exact ⟨rfl, rfl⟩))
    (fun os started H enc _ => lifted os started H enc)
end Go.Proofs.Ythopkkafbaofhaa.LawExactStateOf
namespace Go.Proofs.Ythopkkafbaofhaa
theorem stateOf_holds : Rows.FnExactStateOfSaid := LawExactStateOf.over
#print axioms stateOf_holds
end Go.Proofs.Ythopkkafbaofhaa
