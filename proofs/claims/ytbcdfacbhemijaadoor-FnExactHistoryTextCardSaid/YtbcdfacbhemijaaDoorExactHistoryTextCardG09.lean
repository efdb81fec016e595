/- MModel, MLaw -/
import Derived.Test.YtbcdfacbhemijaaDoorExactHistoryTextCardG07
import Derived.Test.YtbcdfacbhemijaaDoorExactHistoryTextCardG08
import Derived.Test.YtbcdfacbhemijaaDoorExactHistoryTextCardG04
/- toModel, szModel, eqModel, markModel, heldModel. -/
namespace Go.Proofs.YtbcdfacbhemijaaDoor
open Go.RowKit
/- How much of a model there may be. -/
structure SmallM (m : Md) : Prop where
  i : m.i.length ≤ 1048576
  h : m.h.length ≤ 1048576
  r : ∀ i, (hAt m.h i).length ≤ 1048576
  t : sumL (lens m.h) m.h.length ≤ 1048576
  e : m.e.length ≤ 1048576
theorem RowI.rowF {w : World} {g : Nat} {l : List Int} (h : RowI w g l) (hl : l.length ≤ maxLen) : RowF (fun k => k = g) w (sl g l.length) l.length 1 (intCells l) := by
  refine ⟨by simp [intCells], _, _, rfl, Nat.le_refl _, hl, .inr ⟨g, rfl, rfl, h.1, fun j hj => ⟨?_, (h.2 j (by omega)).2⟩⟩⟩
  have hj' : j < l.length := by omega
  rw [(h.2 j hj').1]
  simp [intCells, intAt, hj']
theorem RowTo.rowF {w : World} {g : Nat} {l : List Ev} (h : RowTo w g l.length l l.length) (hl : l.length ≤ maxLen) : RowF (fun k => k = g) w (sl g l.length) l.length 7 (cellsL l) := by
  refine ⟨cellsL_length l, _, _, rfl, Nat.le_refl _, hl, .inr ⟨g, rfl, rfl, h.1, fun j hj => ⟨?_, (h.2.1 j hj).2⟩⟩⟩
  have hi : j / 7 < l.length := by omega
  have e := cellsL_get l _ (j % 7) hi (by omega)
  rw [show j / 7 * 7 + j % 7 = j from by omega] at e
  have hlt : j < (cellsL l).length := by rw [cellsL_length]; exact hj
  rw [List.getElem?_eq_getElem hlt] at e ⊢
  have := (h.2.2 _ hi).get e.symm
  rw [show j / 7 * 7 + j % 7 = j from by omega] at this
  exact this
set_option maxHeartbeats 2000000 in
theorem toModel_any (x : Value) (m : Md) (w : World) (hs : SmallM m) (h : IsM w x m) :
    Calls Tryd.prog 7 #[x] w fun e w' => ∃ y, e = .returned y ∧ Below w.heap.size w w' ∧ MdF (fun k => w.heap.size ≤ k ∧ k < w'.heap.size) w' y m := by
  obtain ⟨vi, vh, vs, rfl, h1, h2, h3⟩ := h
  obtain ⟨n, s, i, hh, ev, z⟩ := m
  have HI : Hid (IsI w vi i) := h1
  have HH : Hid (IsH w vh hh) := h2
  have HE : Hid (IsEvs w vs ev) := h3
  have HS : Hid (SmallM ⟨n, s, i, hh, ev, z⟩) := hs
  clear h1 h2 h3 hs
  obtain ⟨W0, hW0⟩ : ∃ W0, ((w.alloc (.cells #[.int .i64 n, .int .i64 s, vi, vh, vs, .int .i64 z] 26)).alloc (.cells #[.int .i64 0, .int .i64 0, .slice none 0 0, .slice none 0 0, .slice none 0 0, .int .i64 0] 33)).alloc (.cells #[.int .i64 n, .int .i64 s, .slice none 0 0, .slice none 0 0, .slice none 0 0, .int .i64 0] 33) = W0 := ⟨_, rfl⟩
  have HB0 : Hid (Below w.heap.size w W0) := by rw [← hW0]; exact (((Below.refl _ w).alloc (Nat.le_refl _) _).alloc (by simp) _).alloc (by simp; omega) _
  have HP0 : Hid (Bk W0 w.heap.size 26 #[.int .i64 n, .int .i64 s, vi, vh, vs, .int .i64 z]) := by rw [← hW0]; exact ((Bk.new w _ _).alloc _).alloc _
  have HR0 : Hid (Bk W0 (w.heap.size + 1) 33 #[.int .i64 0, .int .i64 0, .slice none 0 0, .slice none 0 0, .slice none 0 0, .int .i64 0]) := by rw [← hW0]; exact (Bk.newAt (by simp) _ _).alloc _
  have HQ0 : Hid (Bk W0 (w.heap.size + 1 + 1) 33 #[.int .i64 n, .int .i64 s, .slice none 0 0, .slice none 0 0, .slice none 0 0, .int .i64 0]) := by rw [← hW0]; exact Bk.newAt (by simp) _ _
  have HW0 : Hid (((w.alloc (.cells #[.int .i64 n, .int .i64 s, vi, vh, vs, .int .i64 z] 26)).alloc (.cells #[.int .i64 0, .int .i64 0, .slice none 0 0, .slice none 0 0, .slice none 0 0, .int .i64 0] 33)).alloc (.cells #[.int .i64 n, .int .i64 s, .slice none 0 0, .slice none 0 0, .slice none 0 0, .int .i64 0] 33) = W0) := hW0
  clear hW0
  go_enter Tryd.func7, Tryd.ntmps7
  go_wp2_with fail
  rw [HW0.out]
  clear HW0
  refine (toI_any _ i _ HS.out.i (HI.out.below HB0.out)).mono ?_
  rintro e w1 ⟨rfl, hb, hr⟩
  have HI1 : Hid (RowI w1 W0.heap.size i) := hr
  have hz1 : W0.heap.size < w1.heap.size := hr.1
  have hq := HQ0.out.lt
  have HX1 : Hid (Below w.heap.size w w1) := HB0.out.trans (hb.mono (by omega))
  have HPa := HP0.out.below hb
  have HRa := HR0.out.below hb
  have HQa := HQ0.out.below hb
  clear hb hr HB0 HP0 HR0 HQ0
  obtain ⟨X1, hX1⟩ : ∃ X1, w1.setCell ⟨w.heap.size + 1 + 1, 2, none⟩ (sl W0.heap.size i.length) = X1 := ⟨_, rfl⟩
  have q2 := HQa.cell (i := 2) rfl
  have qf := HQa.free 2
  have HP1 : Hid (Bk X1 w.heap.size 26 #[.int .i64 n, .int .i64 s, vi, vh, vs, .int .i64 z]) := hX1 ▸ HPa.other 2 _ (by omega)
  have HR1 : Hid (Bk X1 (w.heap.size + 1) 33 #[.int .i64 0, .int .i64 0, .slice none 0 0, .slice none 0 0, .slice none 0 0, .int .i64 0]) := hX1 ▸ HRa.other 2 _ (by omega)
  have HQ1 : Hid (Bk X1 (w.heap.size + 1 + 1) 33 #[.int .i64 n, .int .i64 s, sl W0.heap.size i.length, .slice none 0 0, .slice none 0 0, .int .i64 0]) := hX1 ▸ HQa.put 2 _
  have p3 := HP1.out.cell (i := 3) rfl
  have HI1 : Hid (RowF (fun k => k = W0.heap.size) X1 (sl W0.heap.size i.length) i.length 1 (intCells i)) := hX1 ▸ (HI1.out.rowF (by have : i.length ≤ 1048576 := HS.out.i; unfold maxLen; omega)).turns (one_add w1 (w.heap.size + 1 + 1) 2 _) (fun k e => by omega)
  have HX1 : Hid (Below w.heap.size w X1) := hX1 ▸ HX1.out.setCell (p := ⟨w.heap.size + 1 + 1, 2, none⟩) (by show w.heap.size ≤ w.heap.size + 1 + 1; omega) _
  have hy1 : W0.heap.size < X1.heap.size := by rw [← hX1]; simpa using hz1
  clear HPa HRa HQa
  go_wp2_with fail
  clear p3 q2 qf hX1 hz1
  refine (toOpSS_any _ hh _ HS.out.h HS.out.r (HH.out.below HX1.out)).mono ?_
  rintro e w2 ⟨rfl, hb, hr⟩
  have HH2 : Hid (HsF (fun k => X1.heap.size ≤ k ∧ k < w2.heap.size) w2 (sl X1.heap.size hh.length) hh) := hr.rows (by have : hh.length ≤ 1048576 := HS.out.h; unfold maxLen; omega) (fun i => by have : (hAt hh i).length ≤ 1048576 := HS.out.r i; unfold maxLen; omega)
  have hz2 : X1.heap.size < w2.heap.size := hr.1
  have HX2 : Hid (Below w.heap.size w w2) := HX1.out.trans (hb.mono (by omega))
  have HI2 : Hid (RowF (fun k => k = W0.heap.size) w2 (sl W0.heap.size i.length) i.length 1 (intCells i)) := HI1.out.below hb
  have HP2 := HP1.out.below hb
  have HR2 := HR1.out.below hb
  have HQ2 := HQ1.out.below hb
  clear hb hr HX1 HI1 HP1 HR1 HQ1
  obtain ⟨X2, hX2⟩ : ∃ X2, w2.setCell ⟨w.heap.size + 1 + 1, 3, none⟩ (sl X1.heap.size hh.length) = X2 := ⟨_, rfl⟩
  have q3 := HQ2.cell (i := 3) rfl
  have qf := HQ2.free 3
  have HP3 : Hid (Bk X2 w.heap.size 26 #[.int .i64 n, .int .i64 s, vi, vh, vs, .int .i64 z]) := hX2 ▸ HP2.other 3 _ (by omega)
  have HR3 : Hid (Bk X2 (w.heap.size + 1) 33 #[.int .i64 0, .int .i64 0, .slice none 0 0, .slice none 0 0, .slice none 0 0, .int .i64 0]) := hX2 ▸ HR2.other 3 _ (by omega)
  have HQ3 : Hid (Bk X2 (w.heap.size + 1 + 1) 33 #[.int .i64 n, .int .i64 s, sl W0.heap.size i.length, sl X1.heap.size hh.length, .slice none 0 0, .int .i64 0]) := hX2 ▸ HQ2.put 3 _
  have p4 := HP3.out.cell (i := 4) rfl
  have ht2 := one_add w2 (w.heap.size + 1 + 1) 3 (sl X1.heap.size hh.length)
  rw [hX2] at ht2
  have HI3 : Hid (RowF (fun k => k = W0.heap.size) X2 (sl W0.heap.size i.length) i.length 1 (intCells i)) := HI2.out.turns ht2 (fun k e => by omega)
  obtain ⟨U, hU⟩ := HH2.out
  have HH3 : Hid (HsF (fun k => X1.heap.size ≤ k ∧ k < w2.heap.size) X2 (sl X1.heap.size hh.length) hh) := ⟨U, hU.turns ht2 (fun k e => by omega)⟩
  have HX3 : Hid (Below w.heap.size w X2) := hX2 ▸ HX2.out.setCell (p := ⟨w.heap.size + 1 + 1, 3, none⟩) (by show w.heap.size ≤ w.heap.size + 1 + 1; omega) _
  have hy2 : w2.heap.size ≤ X2.heap.size := ht2.size
  clear hU HP2 HR2 HQ2 ht2 HI2 HH2 HX2
  go_wp2_with fail
  clear p4 q3 qf hX2
  refine (toEventS_any _ ev _ HS.out.e (HE.out.below HX3.out)).mono ?_
  rintro e w3 ⟨rfl, hb, hr⟩
  have HE4 : Hid (RowF (fun k => k = X2.heap.size) w3 (sl X2.heap.size ev.length) ev.length 7 (cellsL ev)) := hr.rowF (by have : ev.length ≤ 1048576 := HS.out.e; unfold maxLen; omega)
  have hz3 : X2.heap.size < w3.heap.size := hr.1
  have HX4 : Hid (Below w.heap.size w w3) := HX3.out.trans (hb.mono (by omega))
  have HI4 : Hid (RowF (fun k => k = W0.heap.size) w3 (sl W0.heap.size i.length) i.length 1 (intCells i)) := HI3.out.below hb
  obtain ⟨U, hU⟩ := HH3.out
  have HH4 : Hid (HsF (fun k => X1.heap.size ≤ k ∧ k < w2.heap.size) w3 (sl X1.heap.size hh.length) hh) := ⟨U, hU.below hb⟩
  have HP4 := HP3.out.below hb
  have HR4 := HR3.out.below hb
  have HQ4 := HQ3.out.below hb
  clear hb hr HX3 HI3 HH3 HP3 HR3 HQ3 hU
  obtain ⟨X3, hX3⟩ : ∃ X3, w3.setCell ⟨w.heap.size + 1 + 1, 4, none⟩ (sl X2.heap.size ev.length) = X3 := ⟨_, rfl⟩
  obtain ⟨X4, hX4⟩ : ∃ X4, X3.setCell ⟨w.heap.size + 1 + 1, 5, none⟩ (.int .i64 z) = X4 := ⟨_, rfl⟩
  have q4 := HQ4.cell (i := 4) rfl
  have qf := HQ4.free 4
  have HP5 : Bk X3 w.heap.size 26 #[.int .i64 n, .int .i64 s, vi, vh, vs, .int .i64 z] := hX3 ▸ HP4.other 4 _ (by omega)
  have p5 := HP5.cell (i := 5) rfl
  have HQ5 : Bk X3 (w.heap.size + 1 + 1) 33 #[.int .i64 n, .int .i64 s, sl W0.heap.size i.length, sl X1.heap.size hh.length, sl X2.heap.size ev.length, .int .i64 0] := hX3 ▸ HQ4.put 4 _
  have q5 := HQ5.cell (i := 5) rfl
  have qf5 := HQ5.free 5
  have HQ6 : Bk X4 (w.heap.size + 1 + 1) 33 #[.int .i64 n, .int .i64 s, sl W0.heap.size i.length, sl X1.heap.size hh.length, sl X2.heap.size ev.length, .int .i64 z] := hX4 ▸ HQ5.put 5 _
  have HR5 : Bk X3 (w.heap.size + 1) 33 #[.int .i64 0, .int .i64 0, .slice none 0 0, .slice none 0 0, .slice none 0 0, .int .i64 0] := hX3 ▸ HR4.other 4 _ (by omega)
  have HR6 : Bk X4 (w.heap.size + 1) 33 #[.int .i64 0, .int .i64 0, .slice none 0 0, .slice none 0 0, .slice none 0 0, .int .i64 0] := hX4 ▸ HR5.other 5 _ (by omega)
  have o0 := HQ6.cell (i := 0) rfl
  have o1 := HQ6.cell (i := 1) rfl
  have o2 := HQ6.cell (i := 2) rfl
  have o3 := HQ6.cell (i := 3) rfl
  have o4 := HQ6.cell (i := 4) rfl
  have o5 := HQ6.cell (i := 5) rfl
  have r0 := HR6.cell (i := 0) rfl
  have r1 := HR6.cell (i := 1) rfl
  have r2 := HR6.cell (i := 2) rfl
  have r3 := HR6.cell (i := 3) rfl
  have r4 := HR6.cell (i := 4) rfl
  have r5 := HR6.cell (i := 5) rfl
  have rf := HR6.free
  have HR7 : Hid (Bk X4 (w.heap.size + 1) 33 #[.int .i64 0, .int .i64 0, .slice none 0 0, .slice none 0 0, .slice none 0 0, .int .i64 0]) := HR6
  have ht3 := (one_add w3 (w.heap.size + 1 + 1) 4 (sl X2.heap.size ev.length))
  rw [hX3] at ht3
  have ht4 := one_add X3 (w.heap.size + 1 + 1) 5 (.int .i64 z)
  rw [hX4] at ht4
  have HT : Hid (Turns (fun k => k = w.heap.size + 1 + 1) w3 X4) := ht3.trans ht4
  clear HP4 HQ4 HP5 HQ5 HQ6 HR4 HR5 HR6 ht3 ht4
  go_wp2
  clear o0 o1 o2 o3 o4 o5 r0 r1 r2 r3 r4 r5 rf
  obtain ⟨X5, hX5⟩ : ∃ X5, put6 X4 (w.heap.size + 1) (.int .i64 n) (.int .i64 s) (.slice (some ⟨W0.heap.size, 0, none⟩) i.length i.length) (.slice (some ⟨X1.heap.size, 0, none⟩) hh.length hh.length) (.slice (some ⟨X2.heap.size, 0, none⟩) ev.length ev.length) (.int .i64 z) = X5 := ⟨_, rfl⟩
  have hR := HR7.out.put6 (.int .i64 n) (.int .i64 s) (.slice (some ⟨W0.heap.size, 0, none⟩) i.length i.length) (.slice (some ⟨X1.heap.size, 0, none⟩) hh.length hh.length) (.slice (some ⟨X2.heap.size, 0, none⟩) ev.length ev.length) (.int .i64 z)
  have ht := put6_turns X4 (w.heap.size + 1) (.int .i64 n) (.int .i64 s) (.slice (some ⟨W0.heap.size, 0, none⟩) i.length i.length) (.slice (some ⟨X1.heap.size, 0, none⟩) hh.length hh.length) (.slice (some ⟨X2.heap.size, 0, none⟩) ev.length ev.length) (.int .i64 z)
  rw [hX5] at hR ht
  unfold put6 at hX5
  rw [hX5]
  have t0 := hR.cell (i := 0) rfl
  have t1 := hR.cell (i := 1) rfl
  have t2 := hR.cell (i := 2) rfl
  have t3 := hR.cell (i := 3) rfl
  have t4 := hR.cell (i := 4) rfl
  have t5 := hR.cell (i := 5) rfl
  have hT : Turns (fun k => k = w.heap.size + 1 + 1 ∨ k = w.heap.size + 1) w3 X5 := (HT.out.mono (fun k e => .inl e)).trans (ht.mono (fun k e => .inr e))
  have hsz := hT.size
  obtain ⟨U, hU⟩ := HH4.out
  refine bodyPost_ret (v := .agg #[.int .i64 n, .int .i64 s, sl W0.heap.size i.length, sl X1.heap.size hh.length, sl X2.heap.size ev.length, .int .i64 z]) (by simp [results, Tryd.results7, go_sem, t0, t1, t2, t3, t4, t5]) rfl
    ⟨_, rfl, HX4.out.trans (hT.to_below (fun k e => by omega) (by omega)), (fun k => k = W0.heap.size), (fun k => X1.heap.size ≤ k ∧ k < w2.heap.size), (fun k => k = X2.heap.size), _, _, _, rfl, ?_, ⟨U, ?_⟩, ?_, fun k e => ?_, fun k e => ?_, fun k e => ?_⟩
  · exact HI4.out.turns hT (fun k e => by omega)
  · exact hU.turns hT (fun k e => by omega)
  · exact HE4.out.turns hT (fun k e => by omega)
  · exact ⟨by omega, by omega, by omega⟩
  · exact ⟨by omega, by omega⟩
  · exact by omega
end Go.Proofs.YtbcdfacbhemijaaDoor

/- szModel, eqModel, markModel, heldModel. -/
namespace Go.Proofs.YtbcdfacbhemijaaDoor
open Go.RowKit
theorem MdF.form {F : Nat → Prop} {w : World} {y : Value} {m : Md} (h : MdF F w y m) : ∃ ai ci ah ch ae ce, y = .agg #[.int .i64 m.n, .int .i64 m.s, .slice ai m.i.length ci, .slice ah m.h.length ch, .slice ae m.e.length ce, .int .i64 m.z] := by
  obtain ⟨A, B, C, vi, vh, vs, rfl, ⟨_, a1, c1, rfl, _⟩, ⟨U, F0, G, ⟨_, a2, c2, rfl, _⟩, _⟩, ⟨_, a3, c3, rfl, _⟩, _⟩ := h
  exact ⟨a1, c1, a2, c2, a3, c3, rfl⟩
set_option maxHeartbeats 2000000 in
theorem szModel_any (x : Value) (m : Md) (w : World) (h : IsM w x m) :
    Calls Tryd.prog 5 #[x, .int .i64 1048576] w fun e w' => (∃ r, e = .returned (.int .i64 r) ∧ (r = -1 ∨ (0 ≤ r ∧ SmallM m))) ∧ Below w.heap.size w w' := by
  obtain ⟨vi, vh, vs, rfl, h1, h2, h3⟩ := h
  obtain ⟨n, s, i, hh, ev, z⟩ := m
  have HH : Hid (IsH w vh hh) := h2
  obtain ⟨a1, c1, rfl, hi1, hi2, _⟩ := h1
  obtain ⟨a3, c3, rfl, he1, he2, _⟩ := h3
  have HI : Hid (i.length ≤ maxLen) := Nat.le_trans hi1 hi2
  have HE : Hid (ev.length ≤ maxLen) := Nat.le_trans he1 he2
  clear h2 hi1 hi2 he1 he2
  obtain ⟨W0, hW0⟩ : ∃ W0, w.alloc (.cells #[.int .i64 n, .int .i64 s, .slice a1 i.length c1, vh, .slice a3 ev.length c3, .int .i64 z] 26) = W0 := ⟨_, rfl⟩
  have HB0 : Hid (Below w.heap.size w W0) := by rw [← hW0]; exact (Below.refl _ w).alloc (Nat.le_refl _) _
  have HP0 : Bk W0 w.heap.size 26 #[.int .i64 n, .int .i64 s, .slice a1 i.length c1, vh, .slice a3 ev.length c3, .int .i64 z] := by rw [← hW0]; exact Bk.new w _ _
  have p2 := HP0.cell (i := 2) rfl
  have p3 := HP0.cell (i := 3) rfl
  have p4 := HP0.cell (i := 4) rfl
  clear HP0
  have go : ∀ q : Int, q = szN i.length 1048576 → q = -1 ∨ (0 ≤ q ∧ q ≤ 1048576 ∧ i.length ≤ 1048576) := by
    intro q hq
    unfold szN at hq
    split at hq <;> omega
  go_enter Tryd.func5, Tryd.ntmps5
  go_wp2_with fail
  refine (szI_any _ _ _ _ _ HI.out (by omega) (by omega)).mono ?_
  rintro e w' ⟨rfl, hw⟩
  have hw' := hw.symm
  clear hw
  subst hw'
  clear hW0
  generalize hq : szN i.length 1048576 = q
  rcases go q hq.symm with rfl | ⟨q0, q1, q2⟩
  · clear go hq
    go_wp2
    go_ret
    exact ⟨⟨_, rfl, .inl rfl⟩, HB0.out⟩
  · have HQ : Hid (i.length ≤ 1048576) := q2
    have q3 : ¬ (q < 0) := by omega
    clear go hq q2
    go_wp2_with fail
    refine (szH_any _ hh _ _ (HH.out.below HB0.out) q0 q1).mono ?_
    rintro e w' ⟨⟨r, rfl, hr⟩, hw⟩
    have hw' := hw.symm
    clear hw
    subst hw'
    rcases hr with rfl | ⟨r0, r1, r2, r3, r4⟩
    · go_wp2
      go_ret
      exact ⟨⟨_, rfl, .inl rfl⟩, HB0.out⟩
    · have r5 : ¬ (r < 0) := by omega
      have r6 : r ≤ 1048576 := by omega
      have HR : Hid ((hh.length : Int) ≤ 1048576 ∧ (∀ i, (hAt hh i).length ≤ 1048576) ∧ sumL (lens hh) hh.length ≤ 1048576) := ⟨r2, r3, r4⟩
      clear r1 r2 r3 r4
      go_wp2_with fail
      refine (szE_any _ _ _ _ _ HE.out r0 r6).mono ?_
      rintro e w' ⟨rfl, hw⟩
      have hw' := hw.symm
      clear hw
      subst hw'
      generalize hq : szN ev.length r = t
      have ht : t = -1 ∨ (0 ≤ t ∧ ev.length ≤ 1048576) := by
        unfold szN at hq
        split at hq <;> omega
      clear hq
      rcases ht with rfl | ⟨t0, t1⟩
      · go_wp2
        go_ret
        exact ⟨⟨_, rfl, .inl rfl⟩, HB0.out⟩
      · have t2 : ¬ (t < 0) := by omega
        go_wp2
        go_ret
        exact ⟨⟨_, rfl, .inr ⟨t0, HQ.out, by have := HR.out.1; show hh.length ≤ 1048576; omega, HR.out.2.1, HR.out.2.2, t1⟩⟩, HB0.out⟩

set_option maxHeartbeats 2000000 in
theorem eqModel_same (x y : Value) (m : Md) (w : World) (hs : SmallM m) (hx : IsM w x m) (hy : IsM w y m) :
    Calls Tryd.prog 10 #[x, y] w fun e w' => e = .returned (.bool true) ∧ Below w.heap.size w w' := by
  obtain ⟨vi, vh, vs, rfl, h1, h2, h3⟩ := hx
  obtain ⟨ui, uh, us, rfl, k1, k2, k3⟩ := hy
  obtain ⟨n, s, i, hh, ev, z⟩ := m
  have HI : Hid (IsI w vi i ∧ IsI w ui i) := ⟨h1, k1⟩
  have HH : Hid (IsH w vh hh ∧ IsH w uh hh) := ⟨h2, k2⟩
  have HE : Hid (IsEvs w vs ev ∧ IsEvs w us ev) := ⟨h3, k3⟩
  have HS : Hid (SmallM ⟨n, s, i, hh, ev, z⟩) := hs
  clear h1 h2 h3 k1 k2 k3 hs
  obtain ⟨W0, hW0⟩ : ∃ W0, (w.alloc (.cells #[.int .i64 n, .int .i64 s, vi, vh, vs, .int .i64 z] 33)).alloc (.cells #[.int .i64 n, .int .i64 s, ui, uh, us, .int .i64 z] 33) = W0 := ⟨_, rfl⟩
  have HB0 : Hid (Below w.heap.size w W0) := by rw [← hW0]; exact ((Below.refl _ w).alloc (Nat.le_refl _) _).alloc (by simp) _
  have HP0 : Hid (Bk W0 w.heap.size 33 #[.int .i64 n, .int .i64 s, vi, vh, vs, .int .i64 z]) := by rw [← hW0]; exact (Bk.new w _ _).alloc _
  have HQ0 : Hid (Bk W0 (w.heap.size + 1) 33 #[.int .i64 n, .int .i64 s, ui, uh, us, .int .i64 z]) := by rw [← hW0]; exact Bk.newAt (by simp) _ _
  have p0 := HP0.out.cell (i := 0) rfl
  have p1 := HP0.out.cell (i := 1) rfl
  have p2 := HP0.out.cell (i := 2) rfl
  have q0 := HQ0.out.cell (i := 0) rfl
  have q1 := HQ0.out.cell (i := 1) rfl
  have q2 := HQ0.out.cell (i := 2) rfl
  go_enter Tryd.func10, Tryd.ntmps10
  go_wp2_with fail
  clear p0 p1 p2 q0 q1 q2 hW0
  refine (eqI_same _ _ i _ (by have : i.length ≤ 1048576 := HS.out.i; omega) (HI.out.1.below HB0.out) (HI.out.2.below HB0.out)).mono ?_
  rintro e w1 ⟨rfl, hb⟩
  have HB1 : Hid (Below w.heap.size w w1) := HB0.out.trans (hb.mono HB0.out.size)
  have HP1 : Hid (Bk w1 w.heap.size 33 #[.int .i64 n, .int .i64 s, vi, vh, vs, .int .i64 z]) := HP0.out.below hb
  have HQ1 : Hid (Bk w1 (w.heap.size + 1) 33 #[.int .i64 n, .int .i64 s, ui, uh, us, .int .i64 z]) := HQ0.out.below hb
  have p3 := HP1.out.cell (i := 3) rfl
  have q3 := HQ1.out.cell (i := 3) rfl
  clear hb HB0 HP0 HQ0
  go_wp2_with fail
  clear p3 q3
  refine (eqH_same _ _ hh _ HS.out.h HS.out.r (HH.out.1.below HB1.out) (HH.out.2.below HB1.out)).mono ?_
  rintro e w2 ⟨rfl, hb⟩
  have HB2 : Hid (Below w.heap.size w w2) := HB1.out.trans (hb.mono HB1.out.size)
  have HP2 : Hid (Bk w2 w.heap.size 33 #[.int .i64 n, .int .i64 s, vi, vh, vs, .int .i64 z]) := HP1.out.below hb
  have HQ2 : Hid (Bk w2 (w.heap.size + 1) 33 #[.int .i64 n, .int .i64 s, ui, uh, us, .int .i64 z]) := HQ1.out.below hb
  have p4 := HP2.out.cell (i := 4) rfl
  have q4 := HQ2.out.cell (i := 4) rfl
  clear hb HB1 HP1 HQ1
  go_wp2_with fail
  clear p4 q4
  refine (eqS_same _ _ ev _ HS.out.e (HE.out.1.below HB2.out) (HE.out.2.below HB2.out)).mono ?_
  rintro e w3 ⟨rfl, hb⟩
  have HB3 : Hid (Below w.heap.size w w3) := HB2.out.trans (hb.mono HB2.out.size)
  have p5 := (HP2.out.below hb).cell (i := 5) rfl
  have q5 := (HQ2.out.below hb).cell (i := 5) rfl
  clear hb HB2 HP2 HQ2
  go_wp2
  go_ret
  exact ⟨rfl, HB3.out⟩

/- The marks that heldModel finds again. -/
def HeldM (F : Nat → Prop) (w : World) (x : Value) (m : Md) : Prop :=
  ∃ (A B C : Nat → Prop) (vi vh vs : Value) (U : Nat → Value), x = .agg #[.int .i64 m.n, .int .i64 m.s, vi, vh, vs, .int .i64 m.z] ∧ RowF A w vi m.i.length 1 (mkCells 1 (m.i.length * 1)) ∧
    RowsF B w vh m.h.length U (lens m.h) (mkRows (1 + (m.i.length : Int)) (lens m.h)) ∧ RowF C w vs m.e.length 7 (mkCells (1 + (m.i.length : Int) + 4 * (sumL (lens m.h) m.h.length : Int)) (m.e.length * 7)) ∧
    (∀ k, A k → F k ∧ ¬ B k ∧ ¬ C k) ∧ (∀ k, B k → F k ∧ ¬ C k) ∧ ∀ k, C k → F k
theorem HeldM.turns {F S : Nat → Prop} {w w' : World} {x : Value} {m : Md} (h : HeldM F w x m) (ht : Turns S w w') (hS : ∀ k, F k → ¬ S k) : HeldM F w' x m := by
  obtain ⟨A, B, C, vi, vh, vs, U, rfl, h1, h2, h3, h4, h5, h6⟩ := h
  exact ⟨A, B, C, vi, vh, vs, U, rfl, h1.turns ht (fun k hk => hS k (h4 k hk).1), h2.turns ht (fun k hk => hS k (h5 k hk).1), h3.turns ht (fun k hk => hS k (h6 k hk)), h4, h5, h6⟩
theorem HeldM.below {F : Nat → Prop} {w w' : World} {x : Value} {m : Md} (h : HeldM F w x m) (hb : Below w.heap.size w w') : HeldM F w' x m :=
  h.turns (S := fun _ => False) (Turns.of_below hb) (fun _ _ => id)
def markNo (m : Md) : Int := 1 + (m.i.length : Int) + 4 * (sumL (lens m.h) m.h.length : Int) + 7 * (m.e.length : Int)
theorem markNo_pos (m : Md) : 1 ≤ markNo m := by unfold markNo; omega

set_option maxHeartbeats 2000000 in
theorem markModel_any {F : Nat → Prop} {x : Value} {m : Md} {w : World} (hs : SmallM m) (h : MdF F w x m) (hF : ∀ k, F k → k < w.heap.size) :
    Calls Tryd.prog 11 #[x, .int .i64 1] w fun e w' => e = .returned (.int .i64 (markNo m)) ∧ HeldM F w' x m ∧ Turns F w w' := by
  obtain ⟨A, B, C, vi, vh, vs, rfl, h1, ⟨U, h2⟩, h3, h4, h5, h6⟩ := h
  obtain ⟨n, s, i, hh, ev, z⟩ := m
  have HI : Hid (RowF A w vi i.length 1 (intCells i)) := h1
  have HH : Hid (RowsF B w vh hh.length U (lens hh) (fun i => cellsO (hAt hh i))) := h2
  have HE : Hid (RowF C w vs ev.length 7 (cellsL ev)) := h3
  have HS : Hid (SmallM ⟨n, s, i, hh, ev, z⟩) := hs
  have HF : Hid ((∀ k, F k → k < w.heap.size) ∧ (∀ k, A k → F k ∧ ¬ B k ∧ ¬ C k) ∧ (∀ k, B k → F k ∧ ¬ C k) ∧ ∀ k, C k → F k) := ⟨hF, h4, h5, h6⟩
  clear h1 h2 h3 h4 h5 h6 hs hF
  obtain ⟨W0, hW0⟩ : ∃ W0, w.alloc (.cells #[.int .i64 n, .int .i64 s, vi, vh, vs, .int .i64 z] 33) = W0 := ⟨_, rfl⟩
  have HB0 : Hid (Below w.heap.size w W0) := by rw [← hW0]; exact (Below.refl _ w).alloc (Nat.le_refl _) _
  have HP0 : Hid (Bk W0 w.heap.size 33 #[.int .i64 n, .int .i64 s, vi, vh, vs, .int .i64 z]) := by rw [← hW0]; exact Bk.new w _ _
  have p2 := HP0.out.cell (i := 2) rfl
  have hi : i.length ≤ 1048576 := HS.out.i
  have hh1 : sumL (lens hh) hh.length ≤ 1048576 := HS.out.t
  have hh2 : hh.length ≤ 1048576 := HS.out.h
  have he : ev.length ≤ 1048576 := HS.out.e
  go_enter Tryd.func11, Tryd.ntmps11
  go_wp2_with fail
  clear p2 hW0
  refine (markIF (F := A) 1 (by omega) (by omega) (by omega) (HI.out.below HB0.out)).mono ?_
  rintro e w1 ⟨rfl, hr, ht⟩
  have HT1 : Hid (Turns F W0 w1) := ht.mono (fun k hk => (HF.out.2.1 k hk).1)
  have HI1 : Hid (RowF A w1 vi i.length 1 (mkCells 1 (i.length * 1))) := hr
  have HH1 : Hid (RowsF B w1 vh hh.length U (lens hh) (fun i => cellsO (hAt hh i))) := (HH.out.below HB0.out).turns ht (fun k hk ha => (HF.out.2.1 k ha).2.1 hk)
  have HE1 : Hid (RowF C w1 vs ev.length 7 (cellsL ev)) := (HE.out.below HB0.out).turns ht (fun k hk ha => (HF.out.2.1 k ha).2.2 hk)
  have HP1 : Hid (Bk w1 w.heap.size 33 #[.int .i64 n, .int .i64 s, vi, vh, vs, .int .i64 z]) := HP0.out.turns HT1.out (fun hk => by have := HF.out.1 _ hk; omega)
  have p3 := HP1.out.cell (i := 3) rfl
  clear hr ht HI HH HE HP0
  go_wp2_with fail
  clear p3
  refine (markHF (F := B) (1 + (i.length : Int)) (by omega) (by omega) (by omega) (by omega) HH1.out).mono ?_
  rintro e w2 ⟨rfl, hr, ht⟩
  have HT2 : Hid (Turns F W0 w2) := HT1.out.trans (ht.mono (fun k hk => (HF.out.2.2.1 k hk).1))
  have HI2 : Hid (RowF A w2 vi i.length 1 (mkCells 1 (i.length * 1))) := HI1.out.turns ht (fun k hk hb => (HF.out.2.1 k hk).2.1 hb)
  have HH2 : Hid (RowsF B w2 vh hh.length U (lens hh) (mkRows (1 + (i.length : Int)) (lens hh))) := hr
  have HE2 : Hid (RowF C w2 vs ev.length 7 (cellsL ev)) := HE1.out.turns ht (fun k hk hb => (HF.out.2.2.1 k hb).2 hk)
  have HP2 : Hid (Bk w2 w.heap.size 33 #[.int .i64 n, .int .i64 s, vi, vh, vs, .int .i64 z]) := HP1.out.turns ht (fun hk => by have := HF.out.1 _ (HF.out.2.2.1 _ hk).1; omega)
  have p4 := HP2.out.cell (i := 4) rfl
  clear hr ht HI1 HH1 HE1 HP1 HT1
  go_wp2_with fail
  clear p4
  refine (markEF (F := C) (1 + (i.length : Int) + 4 * (sumL (lens hh) hh.length : Int)) (by omega) (by omega) (by omega) HE2.out).mono ?_
  rintro e w3 ⟨rfl, hr, ht⟩
  have HT3 : Hid (Turns F W0 w3) := HT2.out.trans (ht.mono (fun k hk => HF.out.2.2.2 k hk))
  have HI3 : Hid (RowF A w3 vi i.length 1 (mkCells 1 (i.length * 1))) := HI2.out.turns ht (fun k hk hc => (HF.out.2.1 k hk).2.2 hc)
  have HH3 : Hid (RowsF B w3 vh hh.length U (lens hh) (mkRows (1 + (i.length : Int)) (lens hh))) := HH2.out.turns ht (fun k hk hc => (HF.out.2.2.1 k hk).2 hc)
  have HE3 : Hid (RowF C w3 vs ev.length 7 (mkCells (1 + (i.length : Int) + 4 * (sumL (lens hh) hh.length : Int)) (ev.length * 7))) := hr
  clear hr ht HI2 HH2 HE2 HP2 HT2
  go_wp2
  go_ret
  exact ⟨rfl, ⟨A, B, C, vi, vh, vs, U, rfl, HI3.out, HH3.out, HE3.out, HF.out.2⟩, (Turns.of_below HB0.out).trans HT3.out⟩

end Go.Proofs.YtbcdfacbhemijaaDoor

