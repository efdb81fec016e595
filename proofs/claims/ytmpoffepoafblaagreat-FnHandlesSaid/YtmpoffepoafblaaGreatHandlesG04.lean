/- MModel, Copies, Find, HeapT, MLaw, SSt -/
import Derived.Test.YtmpoffepoafblaaGreatHandlesG03
import Derived.Test.YtmpoffepoafblaaGreatHandlesG01
import Derived.Deep.RegionLaw
/- toModel, szModel, eqModel, markModel, heldModel. -/
namespace Go.Proofs.YtmpoffepoafblaaGreat
open Go.RowKit
/- How much of a model there may be. -/
structure SmallM (m : Md) : Prop where
  i : m.i.length ≤ 1048576
  h : m.h.length ≤ 1048576
  r : ∀ i, (hAt m.h i).length ≤ 1048576
  t : sumL (lens m.h) m.h.length ≤ 1048576
  e : m.e.length ≤ 1048576
theorem RowI.rowF {w : World} {g : Nat} {l : List Int} (h : RowI w g l) (hl : l.length ≤ maxLen) : RowF (fun k => k = g) w (sl g l.length) l.length 1 (intCells l) := by
  refine ⟨by simp [intCells], _, _, rfl, Nat.le_refl _, hl, .inr ⟨g, rfl, rfl, h.1, fun j hj => ⟨?_, (h.2 j (by omega)).2⟩⟩⟩
  have hj' : j < l.length := by omega
  rw [(h.2 j hj').1]
  simp [intCells, intAt, hj']
theorem RowTo.rowF {w : World} {g : Nat} {l : List Ev} (h : RowTo w g l.length l l.length) (hl : l.length ≤ maxLen) : RowF (fun k => k = g) w (sl g l.length) l.length 7 (cellsL l) := by
  refine ⟨cellsL_length l, _, _, rfl, Nat.le_refl _, hl, .inr ⟨g, rfl, rfl, h.1, fun j hj => ⟨?_, (h.2.1 j hj).2⟩⟩⟩
  have hi : j / 7 < l.length := by omega
  have e := cellsL_get l _ (j % 7) hi (by omega)
  rw [show j / 7 * 7 + j % 7 = j from by omega] at e
  have hlt : j < (cellsL l).length := by rw [cellsL_length]; exact hj
  rw [List.getElem?_eq_getElem hlt] at e ⊢
  have := (h.2.2 _ hi).get e.symm
  rw [show j / 7 * 7 + j % 7 = j from by omega] at this
  exact this
set_option maxHeartbeats 2000000 in
theorem toModel_any (x : Value) (m : Md) (w : World) (hs : SmallM m) (h : IsM w x m) :
    Calls Tryz.prog 13 #[x] w fun e w' => ∃ y, e = .returned y ∧ Below w.heap.size w w' ∧ MdF (fun k => w.heap.size ≤ k ∧ k < w'.heap.size) w' y m := by
  obtain ⟨vi, vh, vs, rfl, h1, h2, h3⟩ := h
  obtain ⟨n, s, i, hh, ev, z⟩ := m
  have HI : Hid (IsI w vi i) := h1
  have HH : Hid (IsH w vh hh) := h2
  have HE : Hid (IsEvs w vs ev) := h3
  have HS : Hid (SmallM ⟨n, s, i, hh, ev, z⟩) := hs
  clear h1 h2 h3 hs
  obtain ⟨W0, hW0⟩ : ∃ W0, ((w.alloc (.cells #[.int .i64 n, .int .i64 s, vi, vh, vs, .int .i64 z] 26)).alloc (.cells #[.int .i64 0, .int .i64 0, .slice none 0 0, .slice none 0 0, .slice none 0 0, .int .i64 0] 36)).alloc (.cells #[.int .i64 n, .int .i64 s, .slice none 0 0, .slice none 0 0, .slice none 0 0, .int .i64 0] 36) = W0 := ⟨_, rfl⟩
  have HB0 : Hid (Below w.heap.size w W0) := by rw [← hW0]; exact (((Below.refl _ w).alloc (Nat.le_refl _) _).alloc (by simp) _).alloc (by simp; omega) _
  have HP0 : Hid (Bk W0 w.heap.size 26 #[.int .i64 n, .int .i64 s, vi, vh, vs, .int .i64 z]) := by rw [← hW0]; exact ((Bk.new w _ _).alloc _).alloc _
  have HR0 : Hid (Bk W0 (w.heap.size + 1) 36 #[.int .i64 0, .int .i64 0, .slice none 0 0, .slice none 0 0, .slice none 0 0, .int .i64 0]) := by rw [← hW0]; exact (Bk.newAt (by simp) _ _).alloc _
  have HQ0 : Hid (Bk W0 (w.heap.size + 1 + 1) 36 #[.int .i64 n, .int .i64 s, .slice none 0 0, .slice none 0 0, .slice none 0 0, .int .i64 0]) := by rw [← hW0]; exact Bk.newAt (by simp) _ _
  have HW0 : Hid (((w.alloc (.cells #[.int .i64 n, .int .i64 s, vi, vh, vs, .int .i64 z] 26)).alloc (.cells #[.int .i64 0, .int .i64 0, .slice none 0 0, .slice none 0 0, .slice none 0 0, .int .i64 0] 36)).alloc (.cells #[.int .i64 n, .int .i64 s, .slice none 0 0, .slice none 0 0, .slice none 0 0, .int .i64 0] 36) = W0) := hW0
  clear hW0
  go_enter Tryz.func13, Tryz.ntmps13
  go_wp2_with fail
  rw [HW0.out]
  clear HW0
  refine (toI_any _ i _ HS.out.i (HI.out.below HB0.out)).mono ?_
  rintro e w1 ⟨rfl, hb, hr⟩
  have HI1 : Hid (RowI w1 W0.heap.size i) := hr
  have hz1 : W0.heap.size < w1.heap.size := hr.1
  have hq := HQ0.out.lt
  have HX1 : Hid (Below w.heap.size w w1) := HB0.out.trans (hb.mono (by omega))
  have HPa := HP0.out.below hb
  have HRa := HR0.out.below hb
  have HQa := HQ0.out.below hb
  clear hb hr HB0 HP0 HR0 HQ0
  obtain ⟨X1, hX1⟩ : ∃ X1, w1.setCell ⟨w.heap.size + 1 + 1, 2, none⟩ (sl W0.heap.size i.length) = X1 := ⟨_, rfl⟩
  have q2 := HQa.cell (i := 2) rfl
  have qf := HQa.free 2
  have HP1 : Hid (Bk X1 w.heap.size 26 #[.int .i64 n, .int .i64 s, vi, vh, vs, .int .i64 z]) := hX1 ▸ HPa.other 2 _ (by omega)
  have HR1 : Hid (Bk X1 (w.heap.size + 1) 36 #[.int .i64 0, .int .i64 0, .slice none 0 0, .slice none 0 0, .slice none 0 0, .int .i64 0]) := hX1 ▸ HRa.other 2 _ (by omega)
  have HQ1 : Hid (Bk X1 (w.heap.size + 1 + 1) 36 #[.int .i64 n, .int .i64 s, sl W0.heap.size i.length, .slice none 0 0, .slice none 0 0, .int .i64 0]) := hX1 ▸ HQa.put 2 _
  have p3 := HP1.out.cell (i := 3) rfl
  have HI1 : Hid (RowF (fun k => k = W0.heap.size) X1 (sl W0.heap.size i.length) i.length 1 (intCells i)) := hX1 ▸ (HI1.out.rowF (by have : i.length ≤ 1048576 := HS.out.i; unfold maxLen; omega)).turns (one_add w1 (w.heap.size + 1 + 1) 2 _) (fun k e => by omega)
  have HX1 : Hid (Below w.heap.size w X1) := hX1 ▸ HX1.out.setCell (p := ⟨w.heap.size + 1 + 1, 2, none⟩) (by show w.heap.size ≤ w.heap.size + 1 + 1; omega) _
  have hy1 : W0.heap.size < X1.heap.size := by rw [← hX1]; simpa using hz1
  clear HPa HRa HQa
  go_wp2_with fail
  clear p3 q2 qf hX1 hz1
  refine (toOpSS_any _ hh _ HS.out.h HS.out.r (HH.out.below HX1.out)).mono ?_
  rintro e w2 ⟨rfl, hb, hr⟩
  have HH2 : Hid (HsF (fun k => X1.heap.size ≤ k ∧ k < w2.heap.size) w2 (sl X1.heap.size hh.length) hh) := hr.rows (by have : hh.length ≤ 1048576 := HS.out.h; unfold maxLen; omega) (fun i => by have : (hAt hh i).length ≤ 1048576 := HS.out.r i; unfold maxLen; omega)
  have hz2 : X1.heap.size < w2.heap.size := hr.1
  have HX2 : Hid (Below w.heap.size w w2) := HX1.out.trans (hb.mono (by omega))
  have HI2 : Hid (RowF (fun k => k = W0.heap.size) w2 (sl W0.heap.size i.length) i.length 1 (intCells i)) := HI1.out.below hb
  have HP2 := HP1.out.below hb
  have HR2 := HR1.out.below hb
  have HQ2 := HQ1.out.below hb
  clear hb hr HX1 HI1 HP1 HR1 HQ1
  obtain ⟨X2, hX2⟩ : ∃ X2, w2.setCell ⟨w.heap.size + 1 + 1, 3, none⟩ (sl X1.heap.size hh.length) = X2 := ⟨_, rfl⟩
  have q3 := HQ2.cell (i := 3) rfl
  have qf := HQ2.free 3
  have HP3 : Hid (Bk X2 w.heap.size 26 #[.int .i64 n, .int .i64 s, vi, vh, vs, .int .i64 z]) := hX2 ▸ HP2.other 3 _ (by omega)
  have HR3 : Hid (Bk X2 (w.heap.size + 1) 36 #[.int .i64 0, .int .i64 0, .slice none 0 0, .slice none 0 0, .slice none 0 0, .int .i64 0]) := hX2 ▸ HR2.other 3 _ (by omega)
  have HQ3 : Hid (Bk X2 (w.heap.size + 1 + 1) 36 #[.int .i64 n, .int .i64 s, sl W0.heap.size i.length, sl X1.heap.size hh.length, .slice none 0 0, .int .i64 0]) := hX2 ▸ HQ2.put 3 _
  have p4 := HP3.out.cell (i := 4) rfl
  have ht2 := one_add w2 (w.heap.size + 1 + 1) 3 (sl X1.heap.size hh.length)
  rw [hX2] at ht2
  have HI3 : Hid (RowF (fun k => k = W0.heap.size) X2 (sl W0.heap.size i.length) i.length 1 (intCells i)) := HI2.out.turns ht2 (fun k e => by omega)
  obtain ⟨U, hU⟩ := HH2.out
  have HH3 : Hid (HsF (fun k => X1.heap.size ≤ k ∧ k < w2.heap.size) X2 (sl X1.heap.size hh.length) hh) := ⟨U, hU.turns ht2 (fun k e => by omega)⟩
  have HX3 : Hid (Below w.heap.size w X2) := hX2 ▸ HX2.out.setCell (p := ⟨w.heap.size + 1 + 1, 3, none⟩) (by show w.heap.size ≤ w.heap.size + 1 + 1; omega) _
  have hy2 : w2.heap.size ≤ X2.heap.size := ht2.size
  clear hU HP2 HR2 HQ2 ht2 HI2 HH2 HX2
  go_wp2_with fail
  clear p4 q3 qf hX2
  refine (toEventS_any _ ev _ HS.out.e (HE.out.below HX3.out)).mono ?_
  rintro e w3 ⟨rfl, hb, hr⟩
  have HE4 : Hid (RowF (fun k => k = X2.heap.size) w3 (sl X2.heap.size ev.length) ev.length 7 (cellsL ev)) := hr.rowF (by have : ev.length ≤ 1048576 := HS.out.e; unfold maxLen; omega)
  have hz3 : X2.heap.size < w3.heap.size := hr.1
  have HX4 : Hid (Below w.heap.size w w3) := HX3.out.trans (hb.mono (by omega))
  have HI4 : Hid (RowF (fun k => k = W0.heap.size) w3 (sl W0.heap.size i.length) i.length 1 (intCells i)) := HI3.out.below hb
  obtain ⟨U, hU⟩ := HH3.out
  have HH4 : Hid (HsF (fun k => X1.heap.size ≤ k ∧ k < w2.heap.size) w3 (sl X1.heap.size hh.length) hh) := ⟨U, hU.below hb⟩
  have HP4 := HP3.out.below hb
  have HR4 := HR3.out.below hb
  have HQ4 := HQ3.out.below hb
  clear hb hr HX3 HI3 HH3 HP3 HR3 HQ3 hU
  obtain ⟨X3, hX3⟩ : ∃ X3, w3.setCell ⟨w.heap.size + 1 + 1, 4, none⟩ (sl X2.heap.size ev.length) = X3 := ⟨_, rfl⟩
  obtain ⟨X4, hX4⟩ : ∃ X4, X3.setCell ⟨w.heap.size + 1 + 1, 5, none⟩ (.int .i64 z) = X4 := ⟨_, rfl⟩
  have q4 := HQ4.cell (i := 4) rfl
  have qf := HQ4.free 4
  have HP5 : Bk X3 w.heap.size 26 #[.int .i64 n, .int .i64 s, vi, vh, vs, .int .i64 z] := hX3 ▸ HP4.other 4 _ (by omega)
  have p5 := HP5.cell (i := 5) rfl
  have HQ5 : Bk X3 (w.heap.size + 1 + 1) 36 #[.int .i64 n, .int .i64 s, sl W0.heap.size i.length, sl X1.heap.size hh.length, sl X2.heap.size ev.length, .int .i64 0] := hX3 ▸ HQ4.put 4 _
  have q5 := HQ5.cell (i := 5) rfl
  have qf5 := HQ5.free 5
  have HQ6 : Bk X4 (w.heap.size + 1 + 1) 36 #[.int .i64 n, .int .i64 s, sl W0.heap.size i.length, sl X1.heap.size hh.length, sl X2.heap.size ev.length, .int .i64 z] := hX4 ▸ HQ5.put 5 _
  have HR5 : Bk X3 (w.heap.size + 1) 36 #[.int .i64 0, .int .i64 0, .slice none 0 0, .slice none 0 0, .slice none 0 0, .int .i64 0] := hX3 ▸ HR4.other 4 _ (by omega)
  have HR6 : Bk X4 (w.heap.size + 1) 36 #[.int .i64 0, .int .i64 0, .slice none 0 0, .slice none 0 0, .slice none 0 0, .int .i64 0] := hX4 ▸ HR5.other 5 _ (by omega)
  have o0 := HQ6.cell (i := 0) rfl
  have o1 := HQ6.cell (i := 1) rfl
  have o2 := HQ6.cell (i := 2) rfl
  have o3 := HQ6.cell (i := 3) rfl
  have o4 := HQ6.cell (i := 4) rfl
  have o5 := HQ6.cell (i := 5) rfl
  have r0 := HR6.cell (i := 0) rfl
  have r1 := HR6.cell (i := 1) rfl
  have r2 := HR6.cell (i := 2) rfl
  have r3 := HR6.cell (i := 3) rfl
  have r4 := HR6.cell (i := 4) rfl
  have r5 := HR6.cell (i := 5) rfl
  have rf := HR6.free
  have HR7 : Hid (Bk X4 (w.heap.size + 1) 36 #[.int .i64 0, .int .i64 0, .slice none 0 0, .slice none 0 0, .slice none 0 0, .int .i64 0]) := HR6
  have ht3 := (one_add w3 (w.heap.size + 1 + 1) 4 (sl X2.heap.size ev.length))
  rw [hX3] at ht3
  have ht4 := one_add X3 (w.heap.size + 1 + 1) 5 (.int .i64 z)
  rw [hX4] at ht4
  have HT : Hid (Turns (fun k => k = w.heap.size + 1 + 1) w3 X4) := ht3.trans ht4
  clear HP4 HQ4 HP5 HQ5 HQ6 HR4 HR5 HR6 ht3 ht4
  go_wp2
  clear o0 o1 o2 o3 o4 o5 r0 r1 r2 r3 r4 r5 rf
  obtain ⟨X5, hX5⟩ : ∃ X5, put6 X4 (w.heap.size + 1) (.int .i64 n) (.int .i64 s) (.slice (some ⟨W0.heap.size, 0, none⟩) i.length i.length) (.slice (some ⟨X1.heap.size, 0, none⟩) hh.length hh.length) (.slice (some ⟨X2.heap.size, 0, none⟩) ev.length ev.length) (.int .i64 z) = X5 := ⟨_, rfl⟩
  have hR := HR7.out.put6 (.int .i64 n) (.int .i64 s) (.slice (some ⟨W0.heap.size, 0, none⟩) i.length i.length) (.slice (some ⟨X1.heap.size, 0, none⟩) hh.length hh.length) (.slice (some ⟨X2.heap.size, 0, none⟩) ev.length ev.length) (.int .i64 z)
  have ht := put6_turns X4 (w.heap.size + 1) (.int .i64 n) (.int .i64 s) (.slice (some ⟨W0.heap.size, 0, none⟩) i.length i.length) (.slice (some ⟨X1.heap.size, 0, none⟩) hh.length hh.length) (.slice (some ⟨X2.heap.size, 0, none⟩) ev.length ev.length) (.int .i64 z)
  rw [hX5] at hR ht
  unfold put6 at hX5
  rw [hX5]
  have t0 := hR.cell (i := 0) rfl
  have t1 := hR.cell (i := 1) rfl
  have t2 := hR.cell (i := 2) rfl
  have t3 := hR.cell (i := 3) rfl
  have t4 := hR.cell (i := 4) rfl
  have t5 := hR.cell (i := 5) rfl
  have hT : Turns (fun k => k = w.heap.size + 1 + 1 ∨ k = w.heap.size + 1) w3 X5 := (HT.out.mono (fun k e => .inl e)).trans (ht.mono (fun k e => .inr e))
  have hsz := hT.size
  obtain ⟨U, hU⟩ := HH4.out
  refine bodyPost_ret (v := .agg #[.int .i64 n, .int .i64 s, sl W0.heap.size i.length, sl X1.heap.size hh.length, sl X2.heap.size ev.length, .int .i64 z]) (by simp [results, Tryz.results13, go_sem, t0, t1, t2, t3, t4, t5]) rfl
    ⟨_, rfl, HX4.out.trans (hT.to_below (fun k e => by omega) (by omega)), (fun k => k = W0.heap.size), (fun k => X1.heap.size ≤ k ∧ k < w2.heap.size), (fun k => k = X2.heap.size), _, _, _, rfl, ?_, ⟨U, ?_⟩, ?_, fun k e => ?_, fun k e => ?_, fun k e => ?_⟩
  · exact HI4.out.turns hT (fun k e => by omega)
  · exact hU.turns hT (fun k e => by omega)
  · exact HE4.out.turns hT (fun k e => by omega)
  · exact ⟨by omega, by omega, by omega⟩
  · exact ⟨by omega, by omega⟩
  · exact by omega
end Go.Proofs.YtmpoffepoafblaaGreat

/- The copies: l1own, copyOf; marks: markEventS, heldEventS. -/
namespace Go.Proofs.YtmpoffepoafblaaGreat
open Go.RowKit

set_option maxHeartbeats 1000000 in
theorem copyOf_any (b off cap : Nat) (l : List Ev) (w : World) (hl : l.length ≤ 1048576) (hI : EvsAt w b off l) :
    Calls Tryz.prog 127 #[.slice (some ⟨b, off, none⟩) l.length cap] w fun e w' => ∃ x, e = .returned x ∧ OwnEvs w.heap.size w' x l ∧ Below w.heap.size w w' := by
  obtain ⟨i0, hi, hz0, hz1, hz2⟩ := info_parts info25
  have HI : Hid (EvsAt w b off l) := hI
  clear hI
  go_enter Tryz.func127, Tryz.ntmps127
  go_wp2_with (at_builtin; refine wpList_append_own _ rfl _ _ 28 rfl w.heap.size 50 i0 _ 7 56 Tryz.underlying28 hi hz0 hz1 hz2 rfl (by decide) (.slice none 0 0) 0 [] rfl (World.ownsRow_nil w _ 50 7) ⟨b, off, none⟩ l.length cap (cellsL l) rfl (cellsL_length l) HI.out.cells (cellsL_one l) (by unfold maxLen; omega) (by omega) (Nat.le_refl _) ?_; intro v' w1 hown hgrow hnil)
  go_ret
  refine ⟨_, rfl, OwnEvs.of_row (by simpa using hown), (Below.refl _ w).grown hgrow (Nat.le_refl _) (fun k e => by cases e)⟩

theorem row_empty (w : World) : (w.alloc (.cells #[] 50)).ownsRow w.heap.size 50 7 (.slice (some ⟨w.heap.size, 0, none⟩) 0 0) 0 [] :=
  ⟨rfl, .inr ⟨w.heap.size, 0, #[], rfl, Nat.le_refl _, (MapKept.heap_alloc w _).1, Nat.le_refl _, Nat.zero_le _, rfl, rfl⟩⟩
set_option maxHeartbeats 1000000 in
theorem own_any (b off cap : Nat) (l : List Ev) (w : World) (hl : l.length ≤ 1048576) (hI : EvsAt w b off l) :
    Calls Tryz.prog 117 #[.slice (some ⟨b, off, none⟩) l.length cap] w fun e w' => ∃ x, e = .returned x ∧ OwnEvs w.heap.size w' x l ∧ Below w.heap.size w w' := by
  obtain ⟨i0, hi, hz0, hz1, hz2⟩ := info_parts info25
  have HI : Hid (EvsAt w b off l) := hI
  clear hI
  go_enter Tryz.func117, Tryz.ntmps117
  go_wp2_with (at_builtin; refine wpList_append_own _ rfl _ _ 28 rfl w.heap.size 50 i0 _ 7 56 Tryz.underlying28 hi hz0 hz1 hz2 rfl (by decide) (.slice (some ⟨w.heap.size, 0, none⟩) 0 0) 0 [] rfl (row_empty w) ⟨b, off, none⟩ l.length cap (cellsL l) rfl (cellsL_length l) (HI.out.below ((Below.refl _ w).alloc (Nat.le_refl _) _) HI.out.1).cells (cellsL_one l) (by unfold maxLen; omega) (by omega) (by simp) ?_; intro v' w1 hown hgrow hnil)
  go_ret
  refine ⟨_, rfl, OwnEvs.of_row (by simpa using hown), ((Below.refl _ w).alloc (Nat.le_refl _) _).grown hgrow (by simp) (fun k e => by cases e; exact Nat.le_refl _)⟩
end Go.Proofs.YtmpoffepoafblaaGreat

/- The specification's l1find. -/
namespace Go.Proofs.YtmpoffepoafblaaGreat
open Go.RowKit

/- The first place of a tag. -/
def FirstAt (l : List Ev) (tag : Int) (i : Nat) : Prop := i < l.length ∧ (evAt l i).g = tag ∧ ∀ j, j < i → (evAt l j).g ≠ tag
def NoTag (l : List Ev) (tag : Int) : Prop := ∀ j, j < l.length → (evAt l j).g ≠ tag
theorem firstAt_or (l : List Ev) (tag : Int) : (∃ i, FirstAt l tag i) ∨ NoTag l tag := by
  have key : ∀ n, n ≤ l.length → (∃ i, FirstAt l tag i) ∨ ∀ j, j < n → (evAt l j).g ≠ tag := by
    intro n
    induction n with
    | zero => intro _; exact .inr (fun j hj => by omega)
    | succ n ih =>
      intro hn
      rcases ih (by omega) with h | h
      · exact .inl h
      · by_cases e : (evAt l n).g = tag
        · exact .inl ⟨n, by omega, e, h⟩
        · exact .inr (fun j hj => by
            by_cases ej : j = n
            · subst ej; exact e
            · exact h j (by omega))
  exact key l.length (Nat.le_refl _)

set_option maxHeartbeats 1000000 in
theorem find_any (b off cap : Nat) (l : List Ev) (tag : Int) (w : World) (hl : l.length ≤ 1048576) (hI : EvsAt w b off l) :
    Calls Tryz.prog 189 #[.slice (some ⟨b, off, none⟩) l.length cap, .int .i64 tag] w fun e w' => ((∃ i : Nat, e = .returned (.int .i64 (i : Int)) ∧ FirstAt l tag i) ∨ (e = .returned (.int .i64 (-1)) ∧ NoTag l tag)) ∧ w' = w := by
  have HI : Hid (EvsAt w b off l) := hI
  clear hI
  go_enter Tryz.func189, Tryz.ntmps189
  go_wp2
  go_loop [5] (fun i => ∃ k : Nat, k ≤ l.length ∧ i = .int .i64 k ∧ Hid (∀ j, j < k → (evAt l j).g ≠ tag)) (fun i => l.length - (intOf i).toNat)
  case atStart => exact ⟨0, Nat.zero_le _, rfl, fun j hj => by omega⟩
  case round =>
    obtain ⟨k, hk, rfl, HT⟩ := hrel
    by_cases hlt : k < l.length
    · have f6 := (HI.out.2 k hlt).f6
      by_cases hg : (evAt l k).g = tag
      · have hge : ((evAt l k).g == tag) = true := by simpa using hg
        have HE : Hid ((evAt l k).g = tag) := hg
        clear hg
        go_wp2
        go_ret
        exact ⟨.inl ⟨k, rfl, hlt, HE.out, HT.out⟩, rfl⟩
      · have hge : ((evAt l k).g == tag) = false := by simpa using hg
        have HE : Hid (¬ (evAt l k).g = tag) := hg
        clear hg
        go_wp2
        go_round
        case rel => exact ⟨k + 1, by omega, by go_num, fun j hj => by
          by_cases e : j = k
          · subst e; exact HE.out
          · exact HT.out j (by omega)⟩
        case measure => simp [intOf]; omega
    · go_wp2
      go_ret
      exact ⟨.inr ⟨rfl, fun j hj => HT.out j (by omega)⟩, rfl⟩

theorem step_append_own {P : Program} {ops : Array Oper} {o : Oper} {a : Act} {w : World} {K : Act → World → Prop} {Q : Exit → Act → World → Prop} {E : Prop}
    (hg : o.guard = none) (s x : Operand) (t : TypeId) (hop : o.op = Op.call { callee := Callee.builtin Builtin.append, args := #[s, x], argTypes := #[t, t] })
    (base : Nat) (e : TypeId) (i : TypeInfo) (z : Value) (size bytes : Nat) (h1 : P.underlying t = some (.slice e)) (h2 : P.info? e = some i) (h3 : i.zero = some z) (h4 : i.size = size) (h5 : i.bytes = bytes) (h6 : z.cells.size = size) (h7 : 0 < size)
    (v : Value) (n : Nat) (xs : List Value) (hs : a.eval s = v) (hown : w.ownsRow base e size v n xs)
    (ad : Addr) (m c : Nat) (news : List Value) (hx : a.eval x = .slice (some ad) m c) (hn : news.length = m * size) (hc : ∀ j u, news[j]? = some u → w.cell? (ad.add j) = some u) (h1c : ∀ u ∈ news, u.oneCell' = true)
    (b1 : n + m ≤ maxLen) (b2 : (n + m) * bytes ≤ 140737488355328) (hbase : base ≤ w.heap.size)
    (hK : ∀ v' w', w'.ownsRow base e size v' (n + m) (xs ++ news) → w.grownBy w' v.ownBlock → K (a.put o.dst v') w') :
    if Region.wanted o (yielded ops a.tmps) = true then Oper.wp P o a w K Q else E := by
  have hw : Region.wanted o (yielded ops a.tmps) = true := by simp [Region.wanted, hg]
  rw [if_pos hw]
  exact wp_append_own w s x t hop base e i z size bytes h1 h2 h3 h4 h5 h6 h7 v n xs hs hown ad m c news hx hn hc h1c b1 b2 hbase (fun v' w' r1 r2 _ => hK v' w' r1 r2)

theorem EvsAt.take {w : World} {b off : Nat} {l : List Ev} (h : EvsAt w b off l) (k : Nat) : EvsAt w b off (l.take k) :=
  ⟨h.1, fun i hi => by
    have h1 : i < k ∧ i < l.length := by simp at hi; omega
    rw [evAt_take _ _ _ h1.1]; exact h.2 i h1.2⟩
theorem EvsAt.drop {w : World} {b off : Nat} {l : List Ev} (h : EvsAt w b off l) (k : Nat) : EvsAt w b (off + k * 7) (l.drop k) :=
  ⟨h.1, fun i hi => by
    have h1 : k + i < l.length := by simp at hi; omega
    rw [evAt_drop, show off + k * 7 + i * 7 = off + (k + i) * 7 from by omega]; exact h.2 _ h1⟩

theorem row_ge {w : World} {B : Nat} {e : TypeId} {size n : Nat} {v : Value} {xs : List Value} (h : w.ownsRow B e size v n xs) {r : Nat} (hr : v.ownBlock = some r) : B ≤ r := by
  obtain ⟨_, ⟨rfl, _⟩ | ⟨g, cap, cur, rfl, hg, _⟩⟩ := h
  · cases hr
  · cases hr; exact hg
end Go.Proofs.YtmpoffepoafblaaGreat

/- Heaps as plain lists: lifting and sinking leave a heap; what is popped first is ahead of all; what is popped one behind the other is in order; two orders of the same events are one. -/
namespace Go.Proofs.YtmpoffepoafblaaGreat

/- a is not behind b. -/
def Le (a b : Ev) : Prop := ¬ b.cmp a < 0
theorem Le.trans {a b c : Ev} (h : Le a b) (k : Le b c) : Le a c := cmp_neg k h
theorem Le.of_lt {a b : Ev} (h : a.cmp b < 0) : Le a b := cmp_asymm h
theorem Le.refl (a : Ev) : Le a a := fun h => cmp_asymm h h
theorem Le.lt {a b : Ev} (h : Le a b) (hg : a.g ≠ b.g) : a.cmp b < 0 := by
  unfold Le Ev.cmp at *
  rw [cmpI_lt] at *
  omega
def HeapW (l : List Ev) : Prop := ∀ i, 0 < i → i < l.length → Le (evAt l ((i - 1) / 2)) (evAt l i)
def Uni (l : List Ev) : Prop := ∀ i j, i < l.length → j < l.length → (evAt l i).g = (evAt l j).g → i = j

/- Lifting. -/
def UpAt (l : List Ev) (i : Nat) : Prop := (∀ j, 0 < j → j < l.length → j ≠ i → Le (evAt l ((j - 1) / 2)) (evAt l j)) ∧ (0 < i → ∀ j, 0 < j → j < l.length → (j - 1) / 2 = i → Le (evAt l ((i - 1) / 2)) (evAt l j))
theorem up_heap (l : List Ev) (i : Nat) (hi : i < l.length) (h : UpAt l i) : HeapW (upL l i) := by
  induction i using Nat.strongRecOn generalizing l with
  | _ i ih =>
    obtain ⟨h1, h2⟩ := h
    by_cases hc : 0 < i ∧ (evAt l i).cmp (evAt l ((i - 1) / 2)) < 0
    · rw [upL_go hc.1 hc.2]
      obtain ⟨h0, hlt⟩ := hc
      generalize hp : (i - 1) / 2 = p at hlt h2 ⊢
      have hpi : p < i := by omega
      have hsw : ∀ j, evAt (swp l i p) j = if p = j then evAt l i else if i = j then evAt l p else evAt l j := fun j => evAt_swp l i p j hi (by omega)
      refine ih p hpi _ (by rw [swp_length]; omega) ⟨fun j hj0 hj hjp => ?_, fun hp0 j hj0 hj hjp => ?_⟩
      · rw [swp_length] at hj
        by_cases hji : j = i
        · subst hji
          rw [hp, hsw p, if_pos rfl, hsw j, if_neg (by omega), if_pos rfl]
          exact Le.of_lt hlt
        · rw [hsw j, if_neg (by omega), if_neg (by omega)]
          by_cases hq : (j - 1) / 2 = p
          · rw [hq, hsw p, if_pos rfl]
            have := h1 j hj0 hj hji
            rw [hq] at this
            exact (Le.of_lt hlt).trans this
          · by_cases hq' : (j - 1) / 2 = i
            · rw [hq', hsw i, if_neg (by omega), if_pos rfl]
              exact h2 h0 j hj0 hj hq'
            · rw [hsw, if_neg (by omega), if_neg (by omega)]
              exact h1 j hj0 hj hji
      · rw [swp_length] at hj
        rw [hsw ((p - 1) / 2), if_neg (by omega), if_neg (by omega)]
        have hpp := h1 p hp0 (by omega) (by omega)
        by_cases hji : j = i
        · subst hji
          rw [hsw j, if_neg (by omega), if_pos rfl]
          exact hpp
        · rw [hsw j, if_neg (by omega), if_neg (by omega)]
          have := h1 j hj0 hj hji
          rw [hjp] at this
          exact hpp.trans this
    · rw [upL_stop hc]
      intro j hj0 hj
      by_cases hji : j = i
      · subst hji
        exact fun h => hc ⟨hj0, h⟩
      · exact h1 j hj0 hj hji
theorem push_heap {l : List Ev} {e : Ev} (h : HeapW l) : HeapW (pushL l e) := by
  unfold pushL
  refine up_heap _ _ (by simp) ⟨fun j hj0 hj hji => ?_, fun h0 j hj0 hj hji => ?_⟩
  · simp at hj
    rw [evAt_left _ _ _ (by omega), evAt_left _ _ _ (by omega)]
    exact h j hj0 (by omega)
  · simp at hj
    omega

/- Sinking. -/
theorem pick_min (l : List Ev) (n i : Nat) : (pickL l n i = i ∨ ((pickL l n i = 2 * i + 1 ∨ pickL l n i = 2 * i + 2) ∧ pickL l n i < n ∧ (evAt l (pickL l n i)).cmp (evAt l i) < 0)) ∧ ∀ j, (j = 2 * i + 1 ∨ j = 2 * i + 2) → j < n → Le (evAt l (pickL l n i)) (evAt l j) := by
  unfold pickL
  by_cases h1 : 2 * i + 1 < n ∧ (evAt l (2 * i + 1)).cmp (evAt l i) < 0
  · rw [if_pos h1]
    by_cases h2 : 2 * i + 2 < n ∧ (evAt l (2 * i + 2)).cmp (evAt l (2 * i + 1)) < 0
    · rw [if_pos h2]
      refine ⟨.inr ⟨.inr rfl, h2.1, cmp_trans h2.2 h1.2⟩, fun j hj hn => ?_⟩
      rcases hj with rfl | rfl
      · exact Le.of_lt h2.2
      · exact Le.refl _
    · rw [if_neg h2]
      refine ⟨.inr ⟨.inl rfl, h1.1, h1.2⟩, fun j hj hn => ?_⟩
      rcases hj with rfl | rfl
      · exact Le.refl _
      · exact fun h => h2 ⟨hn, h⟩
  · rw [if_neg h1]
    by_cases h2 : 2 * i + 2 < n ∧ (evAt l (2 * i + 2)).cmp (evAt l i) < 0
    · rw [if_pos h2]
      refine ⟨.inr ⟨.inr rfl, h2.1, h2.2⟩, fun j hj hn => ?_⟩
      rcases hj with rfl | rfl
      · exact (Le.of_lt h2.2).trans (fun h => h1 ⟨hn, h⟩)
      · exact Le.refl _
    · rw [if_neg h2]
      refine ⟨.inl rfl, fun j hj hn => ?_⟩
      rcases hj with rfl | rfl
      · exact fun h => h1 ⟨hn, h⟩
      · exact fun h => h2 ⟨hn, h⟩
def BothAt (l : List Ev) (i : Nat) : Prop := (∀ j, 0 < j → j < l.length → j ≠ i → (j - 1) / 2 ≠ i → Le (evAt l ((j - 1) / 2)) (evAt l j)) ∧ (0 < i → ∀ j, 0 < j → j < l.length → (j - 1) / 2 = i → Le (evAt l ((i - 1) / 2)) (evAt l j))
def DownAt (l : List Ev) (i : Nat) : Prop := (∀ j, 0 < j → j < l.length → (j - 1) / 2 ≠ i → Le (evAt l ((j - 1) / 2)) (evAt l j)) ∧ (0 < i → ∀ j, 0 < j → j < l.length → (j - 1) / 2 = i → Le (evAt l ((i - 1) / 2)) (evAt l j))
theorem DownAt.both {l : List Ev} {i : Nat} (h : DownAt l i) : BothAt l i := ⟨fun j h0 h1 _ h3 => h.1 j h0 h1 h3, h.2⟩
theorem both_go {l : List Ev} {i : Nat} (hi : i < l.length) (h : BothAt l i) (hk : pickL l l.length i ≠ i) : DownAt (swp l i (pickL l l.length i)) (pickL l l.length i) := by
  obtain ⟨h1, h2⟩ := h
  obtain ⟨hm1, hm2⟩ := pick_min l l.length i
  obtain ⟨hk2, hkn, hlt⟩ := hm1.resolve_left hk
  generalize pickL l l.length i = k at hk hk2 hkn hlt hm2 ⊢
  have hpk : (k - 1) / 2 = i := by omega
  have hsw : ∀ j, evAt (swp l i k) j = if k = j then evAt l i else if i = j then evAt l k else evAt l j := fun j => evAt_swp l i k j hi hkn
  refine ⟨fun j hj0 hj hjk => ?_, fun hk0 j hj0 hj hjk => ?_⟩
  · rw [swp_length] at hj
    by_cases hj1 : j = k
    · subst hj1
      rw [hpk, hsw i, if_neg (by omega), if_pos rfl, hsw j, if_pos rfl]
      exact Le.of_lt hlt
    · by_cases hj2 : j = i
      · subst hj2
        rw [hsw j, if_neg (by omega), if_pos rfl, hsw ((j - 1) / 2), if_neg (by omega), if_neg (by omega)]
        exact h2 hj0 k (by omega) hkn hpk
      · rw [hsw j, if_neg (by omega), if_neg (by omega)]
        by_cases hq : (j - 1) / 2 = i
        · rw [hq, hsw i, if_neg (by omega), if_pos rfl]
          exact hm2 j (by omega) hj
        · rw [hsw, if_neg (by omega), if_neg (by omega)]
          exact h1 j hj0 hj hj2 hq
  · rw [swp_length] at hj
    rw [hpk, hsw i, if_neg (by omega), if_pos rfl, hsw j, if_neg (by omega), if_neg (by omega)]
    have := h1 j hj0 hj (by omega) (by omega)
    rw [hjk] at this
    exact this
theorem down_heap (l : List Ev) (i : Nat) (hi : i < l.length) (h : DownAt l i) : HeapW (downL l l.length i) := by
  generalize hm : l.length - i = m
  induction m using Nat.strongRecOn generalizing l i with
  | _ m ih =>
    by_cases hk : pickL l l.length i = i
    · rw [downL_stop hk]
      have hm2 := (pick_min l l.length i).2
      rw [hk] at hm2
      intro j hj0 hj
      by_cases hq : (j - 1) / 2 = i
      · rw [hq]; exact hm2 j (by omega) hj
      · exact h.1 j hj0 hj hq
    · have hc := (pickL_cases l l.length i).resolve_left hk
      rw [downL_go hk]
      have h3 := ih (l.length - pickL l l.length i) (by omega) (swp l i (pickL l l.length i)) (pickL l l.length i) (by rw [swp_length]; exact hc.2) (both_go hi h.both hk) (by rw [swp_length])
      rw [swp_length] at h3
      exact h3
theorem cut_at (l : List Ev) (i j : Nat) (hi : i < l.length) (hj : j < l.length - 1) : evAt (cutL l i) j = if i = j then evAt l (l.length - 1) else evAt l j := by
  unfold cutL
  rw [evAt_take _ _ _ hj, evAt_set _ _ _ _ hi]
theorem cut_both {l : List Ev} {i : Nat} (h : HeapW l) (hi : i < l.length - 1) : BothAt (cutL l i) i := by
  have hc := cutL_length l i
  refine ⟨fun j hj0 hj hji hq => ?_, fun h0 j hj0 hj hq => ?_⟩
  · rw [hc] at hj
    rw [cut_at _ _ _ (by omega) (by omega), cut_at _ _ _ (by omega) hj, if_neg (by omega), if_neg (by omega)]
    exact h j hj0 (by omega)
  · rw [hc] at hj
    rw [cut_at _ _ _ (by omega) (by omega), cut_at _ _ _ (by omega) hj, if_neg (by omega), if_neg (by omega)]
    have a := h i h0 (by omega)
    have b := h j hj0 (by omega)
    rw [hq] at b
    exact a.trans b
theorem take_heap {l : List Ev} {i : Nat} (h : HeapW l) (hi : i < l.length) : HeapW (takeL l i) := by
  have hc := cutL_length l i
  unfold takeL
  by_cases h1 : i < l.length - 1
  · rw [if_pos h1]
    have hb := cut_both h h1
    rw [← hc] at h1 ⊢
    by_cases hk : pickL (cutL l i) (cutL l i).length i = i
    · rw [downL_stop hk]
      have hm2 := (pick_min (cutL l i) (cutL l i).length i).2
      rw [hk] at hm2
      refine up_heap _ _ h1 ⟨fun j hj0 hj hji => ?_, hb.2⟩
      by_cases hq : (j - 1) / 2 = i
      · rw [hq]; exact hm2 j (by omega) hj
      · exact hb.1 j hj0 hj hji hq
    · have hk2 := (pickL_cases (cutL l i) (cutL l i).length i).resolve_left hk
      have hd : HeapW (downL (cutL l i) (cutL l i).length i) := by
        rw [downL_go hk]
        have h3 := down_heap (swp (cutL l i) i (pickL (cutL l i) (cutL l i).length i)) (pickL (cutL l i) (cutL l i).length i) (by rw [swp_length]; exact hk2.2) (both_go h1 hb hk)
        rw [swp_length] at h3
        exact h3
      rw [upL_stop (fun hu => hd i hu.1 (by rw [downL_length]; exact h1) hu.2)]
      exact hd
  · rw [if_neg h1]
    intro j hj0 hj
    rw [hc] at hj
    rw [cut_at _ _ _ hi (by omega), cut_at _ _ _ hi hj, if_neg (by omega), if_neg (by omega)]
    exact h j hj0 (by omega)
/- The first one is ahead of all. -/
theorem heap_first {l : List Ev} (h : HeapW l) (i : Nat) (hi : i < l.length) : Le (evAt l 0) (evAt l i) := by
  induction i using Nat.strongRecOn with
  | _ i ih =>
    by_cases h0 : i = 0
    · subst h0; exact Le.refl _
    · exact (ih ((i - 1) / 2) (by omega) (by omega)).trans (h i (by omega) hi)
/- Tags that differ. -/
theorem uni_swp {l : List Ev} {i k : Nat} (hi : i < l.length) (hk : k < l.length) (h : Uni l) : Uni (swp l i k) := by
  intro a b ha hb hg
  rw [swp_length] at ha hb
  rw [evAt_swp _ _ _ _ hi hk, evAt_swp _ _ _ _ hi hk] at hg
  by_cases a1 : k = a
  · rw [if_pos a1] at hg
    by_cases b1 : k = b
    · omega
    · rw [if_neg b1] at hg
      by_cases b2 : i = b
      · rw [if_pos b2] at hg
        have := h _ _ hi hk hg
        omega
      · rw [if_neg b2] at hg
        have := h _ _ hi hb hg
        omega
  · rw [if_neg a1] at hg
    by_cases a2 : i = a
    · rw [if_pos a2] at hg
      by_cases b1 : k = b
      · rw [if_pos b1] at hg
        have := h _ _ hk hi hg
        omega
      · rw [if_neg b1] at hg
        by_cases b2 : i = b
        · omega
        · rw [if_neg b2] at hg
          have := h _ _ hk hb hg
          omega
    · rw [if_neg a2] at hg
      by_cases b1 : k = b
      · rw [if_pos b1] at hg
        have := h _ _ ha hi hg
        omega
      · rw [if_neg b1] at hg
        by_cases b2 : i = b
        · rw [if_pos b2] at hg
          have := h _ _ ha hk hg
          omega
        · rw [if_neg b2] at hg
          exact h _ _ ha hb hg
theorem uni_up {l : List Ev} {i : Nat} (hi : i < l.length) (h : Uni l) : Uni (upL l i) := by
  induction i using Nat.strongRecOn generalizing l with
  | _ i ih =>
    by_cases hc : 0 < i ∧ (evAt l i).cmp (evAt l ((i - 1) / 2)) < 0
    · rw [upL_go hc.1 hc.2]
      exact ih _ (by omega) (by rw [swp_length]; omega) (uni_swp hi (by omega) h)
    · rw [upL_stop hc]; exact h
theorem uni_down {l : List Ev} {n i : Nat} (hn : n ≤ l.length) (hi : i < n) (h : Uni l) : Uni (downL l n i) := by
  generalize hm : n - i = m
  induction m using Nat.strongRecOn generalizing l i with
  | _ m ih =>
    by_cases hk : pickL l n i = i
    · rw [downL_stop hk]; exact h
    · have hc := (pickL_cases l n i).resolve_left hk
      rw [downL_go hk]
      exact ih (n - pickL l n i) (by omega) (by rw [swp_length]; exact hn) hc.2 (uni_swp (by omega) (by omega) h) rfl
theorem uni_snoc {l : List Ev} {e : Ev} (h : Uni l) (he : ∀ j, j < l.length → (evAt l j).g ≠ e.g) : Uni (l ++ [e]) := by
  intro a b ha hb hg
  simp at ha hb
  by_cases a1 : a = l.length
  · by_cases b1 : b = l.length
    · omega
    · rw [a1, evAt_last, evAt_left _ _ _ (by omega)] at hg
      exact absurd hg.symm (he b (by omega))
  · by_cases b1 : b = l.length
    · rw [b1, evAt_last, evAt_left _ _ _ (by omega)] at hg
      exact absurd hg (he a (by omega))
    · rw [evAt_left _ _ _ (by omega), evAt_left _ _ _ (by omega)] at hg
      exact h a b (by omega) (by omega) hg
theorem uni_push {l : List Ev} {e : Ev} (h : Uni l) (he : ∀ j, j < l.length → (evAt l j).g ≠ e.g) : Uni (pushL l e) := uni_up (by simp) (uni_snoc h he)
theorem uni_cut {l : List Ev} {i : Nat} (hi : i < l.length) (h : Uni l) : Uni (cutL l i) := by
  intro a b ha hb hg
  rw [cutL_length] at ha hb
  rw [cut_at _ _ _ hi ha, cut_at _ _ _ hi hb] at hg
  by_cases a1 : i = a
  · rw [if_pos a1] at hg
    by_cases b1 : i = b
    · omega
    · rw [if_neg b1] at hg
      have := h _ _ (by omega) (by omega) hg
      omega
  · rw [if_neg a1] at hg
    by_cases b1 : i = b
    · rw [if_pos b1] at hg
      have := h _ _ (by omega) (by omega) hg
      omega
    · rw [if_neg b1] at hg
      exact h _ _ (by omega) (by omega) hg
theorem uni_take {l : List Ev} {i : Nat} (hi : i < l.length) (h : Uni l) : Uni (takeL l i) := by
  unfold takeL
  by_cases h1 : i < l.length - 1
  · rw [if_pos h1]
    exact uni_up (by rw [downL_length, cutL_length]; exact h1) (uni_down (by rw [cutL_length]; omega) h1 (uni_cut hi h))
  · rw [if_neg h1]; exact uni_cut hi h
/- What is there. -/
def InL (e : Ev) (l : List Ev) : Prop := ∃ j, j < l.length ∧ evAt l j = e
theorem inL_kept {e : Ev} {l : List Ev} : InL e l ↔ ¬ Kept (fun x => x ≠ e) l := by
  constructor
  · rintro ⟨j, hj, he⟩ h
    exact h j hj he
  · intro h
    refine Classical.byContradiction fun hn => h fun j hj he => hn ⟨j, hj, he⟩
theorem inL_push {e x : Ev} {l : List Ev} : InL e (pushL l x) ↔ InL e l ∨ e = x := by
  rw [inL_kept, kept_pushL, inL_kept]
  constructor
  · intro h
    by_cases h1 : Kept (fun y => y ≠ e) l
    · by_cases h2 : e = x
      · exact .inr h2
      · exact absurd ⟨h1, fun hh => h2 hh.symm⟩ h
    · exact .inl h1
  · rintro (h | h) ⟨h1, h2⟩
    · exact h h1
    · exact h2 h.symm
theorem inL_cut {e : Ev} {l : List Ev} {i : Nat} (hi : i < l.length) (h : Uni l) : InL e (cutL l i) ↔ InL e l ∧ e ≠ evAt l i := by
  constructor
  · rintro ⟨j, hj, he⟩
    rw [cutL_length] at hj
    rw [cut_at _ _ _ hi hj] at he
    by_cases h1 : i = j
    · rw [if_pos h1] at he
      exact ⟨⟨_, by omega, he⟩, fun hh => by
        have := h (l.length - 1) i (by omega) hi (by rw [he, hh])
        omega⟩
    · rw [if_neg h1] at he
      exact ⟨⟨j, by omega, he⟩, fun hh => h1 (h i j hi (by omega) (by rw [he, hh]))⟩
  · rintro ⟨⟨j, hj, he⟩, hne⟩
    have hji : i ≠ j := fun hh => hne (by rw [hh, he])
    by_cases h1 : j = l.length - 1
    · exact ⟨i, by rw [cutL_length]; omega, by rw [cut_at _ _ _ hi (by omega), if_pos rfl, ← h1, he]⟩
    · exact ⟨j, by rw [cutL_length]; omega, by rw [cut_at _ _ _ hi (by omega), if_neg hji, he]⟩
theorem inL_take {e : Ev} {l : List Ev} {i : Nat} (hi : i < l.length) (h : Uni l) : InL e (takeL l i) ↔ InL e l ∧ e ≠ evAt l i := by
  rw [← inL_cut hi h]
  unfold takeL
  by_cases h1 : i < l.length - 1
  · rw [if_pos h1, inL_kept, kept_upL (by rw [downL_length, cutL_length]; exact h1), kept_downL (by rw [cutL_length]; omega) h1, ← inL_kept]
  · rw [if_neg h1]
theorem take_first {l : List Ev} (h : HeapW l) (hu : Uni l) (h0 : 0 < l.length) (j : Nat) (hj : j < (takeL l 0).length) : (evAt l 0).cmp (evAt (takeL l 0) j) < 0 := by
  obtain ⟨⟨i, hi, he⟩, hne⟩ := (inL_take h0 hu).1 ⟨j, hj, rfl⟩
  have h1 := heap_first h i hi
  rw [he] at h1
  refine h1.lt fun hg => hne ?_
  rw [← he] at hg ⊢
  rw [hu 0 i h0 hi hg]
/- In order. -/
def Ord1 (l : List Ev) : Prop := ∀ i j, i < j → j < l.length → (evAt l i).cmp (evAt l j) < 0
theorem evAt_cons (e : Ev) (l : List Ev) (i : Nat) : evAt (e :: l) (i + 1) = evAt l i := by simp [evAt]
theorem evAt_head (e : Ev) (l : List Ev) : evAt (e :: l) 0 = e := by simp [evAt]
theorem inL_cons {e x : Ev} {l : List Ev} : InL e (x :: l) ↔ e = x ∨ InL e l := by
  constructor
  · rintro ⟨j, hj, he⟩
    cases j with
    | zero => rw [evAt_head] at he; exact .inl he.symm
    | succ j => rw [evAt_cons] at he; exact .inr ⟨j, by simpa using hj, he⟩
  · rintro (rfl | ⟨j, hj, he⟩)
    · exact ⟨0, by simp, evAt_head _ _⟩
    · exact ⟨j + 1, by simpa using hj, by rw [evAt_cons]; exact he⟩
theorem ord_cons {x : Ev} {l : List Ev} : Ord1 (x :: l) ↔ (∀ j, j < l.length → x.cmp (evAt l j) < 0) ∧ Ord1 l := by
  constructor
  · intro h
    refine ⟨fun j hj => ?_, fun i j hij hj => ?_⟩
    · have := h 0 (j + 1) (by omega) (by simpa using hj)
      rwa [evAt_head, evAt_cons] at this
    · have := h (i + 1) (j + 1) (by omega) (by simpa using hj)
      rwa [evAt_cons, evAt_cons] at this
  · rintro ⟨h1, h2⟩ i j hij hj
    cases j with
    | zero => omega
    | succ j =>
      rw [evAt_cons]
      cases i with
      | zero => rw [evAt_head]; exact h1 j (by simpa using hj)
      | succ i => rw [evAt_cons]; exact h2 i j (by omega) (by simpa using hj)
theorem ord_same : ∀ (s t : List Ev), Ord1 s → Ord1 t → (∀ e, InL e s ↔ InL e t) → s = t
  | [], [], _, _, _ => rfl
  | [], b :: t, _, _, h => by
    obtain ⟨j, hj, _⟩ := (h b).2 ⟨0, by simp, evAt_head _ _⟩
    simp at hj
  | a :: s, [], _, _, h => by
    obtain ⟨j, hj, _⟩ := (h a).1 ⟨0, by simp, evAt_head _ _⟩
    simp at hj
  | a :: s, b :: t, hs, ht, h => by
    obtain ⟨hs1, hs2⟩ := ord_cons.1 hs
    obtain ⟨ht1, ht2⟩ := ord_cons.1 ht
    have hab : a = b := by
      rcases inL_cons.1 ((h a).1 (inL_cons.2 (.inl rfl))) with h1 | ⟨i, hi, h1⟩
      · exact h1
      · rcases inL_cons.1 ((h b).2 (inL_cons.2 (.inl rfl))) with h2 | ⟨j, hj, h2⟩
        · exact h2.symm
        · have a1 := ht1 i hi
          have a2 := hs1 j hj
          rw [h1] at a1
          rw [h2] at a2
          exact absurd a1 (cmp_asymm a2)
    subst hab
    have hir : ∀ x : Ev, ¬ x.cmp x < 0 := fun x hx => cmp_asymm hx hx
    rw [ord_same s t hs2 ht2 fun e => ?_]
    constructor
    · intro he
      rcases inL_cons.1 ((h e).1 (inL_cons.2 (.inr he))) with h1 | h1
      · obtain ⟨i, hi, h2⟩ := he
        have := hs1 i hi
        rw [h2, h1] at this
        exact absurd this (hir _)
      · exact h1
    · intro he
      rcases inL_cons.1 ((h e).2 (inL_cons.2 (.inr he))) with h1 | h1
      · obtain ⟨i, hi, h2⟩ := he
        have := ht1 i hi
        rw [h2, h1] at this
        exact absurd this (hir _)
      · exact h1
end Go.Proofs.YtmpoffepoafblaaGreat

/- szModel, eqModel, markModel, heldModel. -/
namespace Go.Proofs.YtmpoffepoafblaaGreat
open Go.RowKit
theorem MdF.form {F : Nat → Prop} {w : World} {y : Value} {m : Md} (h : MdF F w y m) : ∃ ai ci ah ch ae ce, y = .agg #[.int .i64 m.n, .int .i64 m.s, .slice ai m.i.length ci, .slice ah m.h.length ch, .slice ae m.e.length ce, .int .i64 m.z] := by
  obtain ⟨A, B, C, vi, vh, vs, rfl, ⟨_, a1, c1, rfl, _⟩, ⟨U, F0, G, ⟨_, a2, c2, rfl, _⟩, _⟩, ⟨_, a3, c3, rfl, _⟩, _⟩ := h
  exact ⟨a1, c1, a2, c2, a3, c3, rfl⟩
set_option maxHeartbeats 2000000 in
theorem szModel_any (x : Value) (m : Md) (w : World) (h : IsM w x m) :
    Calls Tryz.prog 11 #[x, .int .i64 1048576] w fun e w' => (∃ r, e = .returned (.int .i64 r) ∧ (r = -1 ∨ (0 ≤ r ∧ SmallM m))) ∧ Below w.heap.size w w' := by
  obtain ⟨vi, vh, vs, rfl, h1, h2, h3⟩ := h
  obtain ⟨n, s, i, hh, ev, z⟩ := m
  have HH : Hid (IsH w vh hh) := h2
  obtain ⟨a1, c1, rfl, hi1, hi2, _⟩ := h1
  obtain ⟨a3, c3, rfl, he1, he2, _⟩ := h3
  have HI : Hid (i.length ≤ maxLen) := Nat.le_trans hi1 hi2
  have HE : Hid (ev.length ≤ maxLen) := Nat.le_trans he1 he2
  clear h2 hi1 hi2 he1 he2
  obtain ⟨W0, hW0⟩ : ∃ W0, w.alloc (.cells #[.int .i64 n, .int .i64 s, .slice a1 i.length c1, vh, .slice a3 ev.length c3, .int .i64 z] 26) = W0 := ⟨_, rfl⟩
  have HB0 : Hid (Below w.heap.size w W0) := by rw [← hW0]; exact (Below.refl _ w).alloc (Nat.le_refl _) _
  have HP0 : Bk W0 w.heap.size 26 #[.int .i64 n, .int .i64 s, .slice a1 i.length c1, vh, .slice a3 ev.length c3, .int .i64 z] := by rw [← hW0]; exact Bk.new w _ _
  have p2 := HP0.cell (i := 2) rfl
  have p3 := HP0.cell (i := 3) rfl
  have p4 := HP0.cell (i := 4) rfl
  clear HP0
  have go : ∀ q : Int, q = szN i.length 1048576 → q = -1 ∨ (0 ≤ q ∧ q ≤ 1048576 ∧ i.length ≤ 1048576) := by
    intro q hq
    unfold szN at hq
    split at hq <;> omega
  go_enter Tryz.func11, Tryz.ntmps11
  go_wp2_with fail
  refine (szI_any _ _ _ _ _ HI.out (by omega) (by omega)).mono ?_
  rintro e w' ⟨rfl, hw⟩
  have hw' := hw.symm
  clear hw
  subst hw'
  clear hW0
  generalize hq : szN i.length 1048576 = q
  rcases go q hq.symm with rfl | ⟨q0, q1, q2⟩
  · clear go hq
    go_wp2
    go_ret
    exact ⟨⟨_, rfl, .inl rfl⟩, HB0.out⟩
  · have HQ : Hid (i.length ≤ 1048576) := q2
    have q3 : ¬ (q < 0) := by omega
    clear go hq q2
    go_wp2_with fail
    refine (szH_any _ hh _ _ (HH.out.below HB0.out) q0 q1).mono ?_
    rintro e w' ⟨⟨r, rfl, hr⟩, hw⟩
    have hw' := hw.symm
    clear hw
    subst hw'
    rcases hr with rfl | ⟨r0, r1, r2, r3, r4⟩
    · go_wp2
      go_ret
      exact ⟨⟨_, rfl, .inl rfl⟩, HB0.out⟩
    · have r5 : ¬ (r < 0) := by omega
      have r6 : r ≤ 1048576 := by omega
      have HR : Hid ((hh.length : Int) ≤ 1048576 ∧ (∀ i, (hAt hh i).length ≤ 1048576) ∧ sumL (lens hh) hh.length ≤ 1048576) := ⟨r2, r3, r4⟩
      clear r1 r2 r3 r4
      go_wp2_with fail
      refine (szE_any _ _ _ _ _ HE.out r0 r6).mono ?_
      rintro e w' ⟨rfl, hw⟩
      have hw' := hw.symm
      clear hw
      subst hw'
      generalize hq : szN ev.length r = t
      have ht : t = -1 ∨ (0 ≤ t ∧ ev.length ≤ 1048576) := by
        unfold szN at hq
        split at hq <;> omega
      clear hq
      rcases ht with rfl | ⟨t0, t1⟩
      · go_wp2
        go_ret
        exact ⟨⟨_, rfl, .inl rfl⟩, HB0.out⟩
      · have t2 : ¬ (t < 0) := by omega
        go_wp2
        go_ret
        exact ⟨⟨_, rfl, .inr ⟨t0, HQ.out, by have := HR.out.1; show hh.length ≤ 1048576; omega, HR.out.2.1, HR.out.2.2, t1⟩⟩, HB0.out⟩

set_option maxHeartbeats 2000000 in
theorem eqModel_same (x y : Value) (m : Md) (w : World) (hs : SmallM m) (hx : IsM w x m) (hy : IsM w y m) :
    Calls Tryz.prog 17 #[x, y] w fun e w' => e = .returned (.bool true) ∧ Below w.heap.size w w' := by
  obtain ⟨vi, vh, vs, rfl, h1, h2, h3⟩ := hx
  obtain ⟨ui, uh, us, rfl, k1, k2, k3⟩ := hy
  obtain ⟨n, s, i, hh, ev, z⟩ := m
  have HI : Hid (IsI w vi i ∧ IsI w ui i) := ⟨h1, k1⟩
  have HH : Hid (IsH w vh hh ∧ IsH w uh hh) := ⟨h2, k2⟩
  have HE : Hid (IsEvs w vs ev ∧ IsEvs w us ev) := ⟨h3, k3⟩
  have HS : Hid (SmallM ⟨n, s, i, hh, ev, z⟩) := hs
  clear h1 h2 h3 k1 k2 k3 hs
  obtain ⟨W0, hW0⟩ : ∃ W0, (w.alloc (.cells #[.int .i64 n, .int .i64 s, vi, vh, vs, .int .i64 z] 36)).alloc (.cells #[.int .i64 n, .int .i64 s, ui, uh, us, .int .i64 z] 36) = W0 := ⟨_, rfl⟩
  have HB0 : Hid (Below w.heap.size w W0) := by rw [← hW0]; exact ((Below.refl _ w).alloc (Nat.le_refl _) _).alloc (by simp) _
  have HP0 : Hid (Bk W0 w.heap.size 36 #[.int .i64 n, .int .i64 s, vi, vh, vs, .int .i64 z]) := by rw [← hW0]; exact (Bk.new w _ _).alloc _
  have HQ0 : Hid (Bk W0 (w.heap.size + 1) 36 #[.int .i64 n, .int .i64 s, ui, uh, us, .int .i64 z]) := by rw [← hW0]; exact Bk.newAt (by simp) _ _
  have p0 := HP0.out.cell (i := 0) rfl
  have p1 := HP0.out.cell (i := 1) rfl
  have p2 := HP0.out.cell (i := 2) rfl
  have q0 := HQ0.out.cell (i := 0) rfl
  have q1 := HQ0.out.cell (i := 1) rfl
  have q2 := HQ0.out.cell (i := 2) rfl
  go_enter Tryz.func17, Tryz.ntmps17
  go_wp2_with fail
  clear p0 p1 p2 q0 q1 q2 hW0
  refine (eqI_same _ _ i _ (by have : i.length ≤ 1048576 := HS.out.i; omega) (HI.out.1.below HB0.out) (HI.out.2.below HB0.out)).mono ?_
  rintro e w1 ⟨rfl, hb⟩
  have HB1 : Hid (Below w.heap.size w w1) := HB0.out.trans (hb.mono HB0.out.size)
  have HP1 : Hid (Bk w1 w.heap.size 36 #[.int .i64 n, .int .i64 s, vi, vh, vs, .int .i64 z]) := HP0.out.below hb
  have HQ1 : Hid (Bk w1 (w.heap.size + 1) 36 #[.int .i64 n, .int .i64 s, ui, uh, us, .int .i64 z]) := HQ0.out.below hb
  have p3 := HP1.out.cell (i := 3) rfl
  have q3 := HQ1.out.cell (i := 3) rfl
  clear hb HB0 HP0 HQ0
  go_wp2_with fail
  clear p3 q3
  refine (eqH_same _ _ hh _ HS.out.h HS.out.r (HH.out.1.below HB1.out) (HH.out.2.below HB1.out)).mono ?_
  rintro e w2 ⟨rfl, hb⟩
  have HB2 : Hid (Below w.heap.size w w2) := HB1.out.trans (hb.mono HB1.out.size)
  have HP2 : Hid (Bk w2 w.heap.size 36 #[.int .i64 n, .int .i64 s, vi, vh, vs, .int .i64 z]) := HP1.out.below hb
  have HQ2 : Hid (Bk w2 (w.heap.size + 1) 36 #[.int .i64 n, .int .i64 s, ui, uh, us, .int .i64 z]) := HQ1.out.below hb
  have p4 := HP2.out.cell (i := 4) rfl
  have q4 := HQ2.out.cell (i := 4) rfl
  clear hb HB1 HP1 HQ1
  go_wp2_with fail
  clear p4 q4
  refine (eqS_same _ _ ev _ HS.out.e (HE.out.1.below HB2.out) (HE.out.2.below HB2.out)).mono ?_
  rintro e w3 ⟨rfl, hb⟩
  have HB3 : Hid (Below w.heap.size w w3) := HB2.out.trans (hb.mono HB2.out.size)
  have p5 := (HP2.out.below hb).cell (i := 5) rfl
  have q5 := (HQ2.out.below hb).cell (i := 5) rfl
  clear hb HB2 HP2 HQ2
  go_wp2
  go_ret
  exact ⟨rfl, HB3.out⟩

/- The marks that heldModel finds again. -/
def HeldM (F : Nat → Prop) (w : World) (x : Value) (m : Md) : Prop :=
  ∃ (A B C : Nat → Prop) (vi vh vs : Value) (U : Nat → Value), x = .agg #[.int .i64 m.n, .int .i64 m.s, vi, vh, vs, .int .i64 m.z] ∧ RowF A w vi m.i.length 1 (mkCells 1 (m.i.length * 1)) ∧
    RowsF B w vh m.h.length U (lens m.h) (mkRows (1 + (m.i.length : Int)) (lens m.h)) ∧ RowF C w vs m.e.length 7 (mkCells (1 + (m.i.length : Int) + 4 * (sumL (lens m.h) m.h.length : Int)) (m.e.length * 7)) ∧
    (∀ k, A k → F k ∧ ¬ B k ∧ ¬ C k) ∧ (∀ k, B k → F k ∧ ¬ C k) ∧ ∀ k, C k → F k
theorem HeldM.turns {F S : Nat → Prop} {w w' : World} {x : Value} {m : Md} (h : HeldM F w x m) (ht : Turns S w w') (hS : ∀ k, F k → ¬ S k) : HeldM F w' x m := by
  obtain ⟨A, B, C, vi, vh, vs, U, rfl, h1, h2, h3, h4, h5, h6⟩ := h
  exact ⟨A, B, C, vi, vh, vs, U, rfl, h1.turns ht (fun k hk => hS k (h4 k hk).1), h2.turns ht (fun k hk => hS k (h5 k hk).1), h3.turns ht (fun k hk => hS k (h6 k hk)), h4, h5, h6⟩
theorem HeldM.below {F : Nat → Prop} {w w' : World} {x : Value} {m : Md} (h : HeldM F w x m) (hb : Below w.heap.size w w') : HeldM F w' x m :=
  h.turns (S := fun _ => False) (Turns.of_below hb) (fun _ _ => id)
def markNo (m : Md) : Int := 1 + (m.i.length : Int) + 4 * (sumL (lens m.h) m.h.length : Int) + 7 * (m.e.length : Int)
theorem markNo_pos (m : Md) : 1 ≤ markNo m := by unfold markNo; omega

set_option maxHeartbeats 2000000 in
theorem markModel_any {F : Nat → Prop} {x : Value} {m : Md} {w : World} (hs : SmallM m) (h : MdF F w x m) (hF : ∀ k, F k → k < w.heap.size) :
    Calls Tryz.prog 19 #[x, .int .i64 1] w fun e w' => e = .returned (.int .i64 (markNo m)) ∧ HeldM F w' x m ∧ Turns F w w' := by
  obtain ⟨A, B, C, vi, vh, vs, rfl, h1, ⟨U, h2⟩, h3, h4, h5, h6⟩ := h
  obtain ⟨n, s, i, hh, ev, z⟩ := m
  have HI : Hid (RowF A w vi i.length 1 (intCells i)) := h1
  have HH : Hid (RowsF B w vh hh.length U (lens hh) (fun i => cellsO (hAt hh i))) := h2
  have HE : Hid (RowF C w vs ev.length 7 (cellsL ev)) := h3
  have HS : Hid (SmallM ⟨n, s, i, hh, ev, z⟩) := hs
  have HF : Hid ((∀ k, F k → k < w.heap.size) ∧ (∀ k, A k → F k ∧ ¬ B k ∧ ¬ C k) ∧ (∀ k, B k → F k ∧ ¬ C k) ∧ ∀ k, C k → F k) := ⟨hF, h4, h5, h6⟩
  clear h1 h2 h3 h4 h5 h6 hs hF
  obtain ⟨W0, hW0⟩ : ∃ W0, w.alloc (.cells #[.int .i64 n, .int .i64 s, vi, vh, vs, .int .i64 z] 36) = W0 := ⟨_, rfl⟩
  have HB0 : Hid (Below w.heap.size w W0) := by rw [← hW0]; exact (Below.refl _ w).alloc (Nat.le_refl _) _
  have HP0 : Hid (Bk W0 w.heap.size 36 #[.int .i64 n, .int .i64 s, vi, vh, vs, .int .i64 z]) := by rw [← hW0]; exact Bk.new w _ _
  have p2 := HP0.out.cell (i := 2) rfl
  have hi : i.length ≤ 1048576 := HS.out.i
  have hh1 : sumL (lens hh) hh.length ≤ 1048576 := HS.out.t
  have hh2 : hh.length ≤ 1048576 := HS.out.h
  have he : ev.length ≤ 1048576 := HS.out.e
  go_enter Tryz.func19, Tryz.ntmps19
  go_wp2_with fail
  clear p2 hW0
  refine (markIF (F := A) 1 (by omega) (by omega) (by omega) (HI.out.below HB0.out)).mono ?_
  rintro e w1 ⟨rfl, hr, ht⟩
  have HT1 : Hid (Turns F W0 w1) := ht.mono (fun k hk => (HF.out.2.1 k hk).1)
  have HI1 : Hid (RowF A w1 vi i.length 1 (mkCells 1 (i.length * 1))) := hr
  have HH1 : Hid (RowsF B w1 vh hh.length U (lens hh) (fun i => cellsO (hAt hh i))) := (HH.out.below HB0.out).turns ht (fun k hk ha => (HF.out.2.1 k ha).2.1 hk)
  have HE1 : Hid (RowF C w1 vs ev.length 7 (cellsL ev)) := (HE.out.below HB0.out).turns ht (fun k hk ha => (HF.out.2.1 k ha).2.2 hk)
  have HP1 : Hid (Bk w1 w.heap.size 36 #[.int .i64 n, .int .i64 s, vi, vh, vs, .int .i64 z]) := HP0.out.turns HT1.out (fun hk => by have := HF.out.1 _ hk; omega)
  have p3 := HP1.out.cell (i := 3) rfl
  clear hr ht HI HH HE HP0
  go_wp2_with fail
  clear p3
  refine (markHF (F := B) (1 + (i.length : Int)) (by omega) (by omega) (by omega) (by omega) HH1.out).mono ?_
  rintro e w2 ⟨rfl, hr, ht⟩
  have HT2 : Hid (Turns F W0 w2) := HT1.out.trans (ht.mono (fun k hk => (HF.out.2.2.1 k hk).1))
  have HI2 : Hid (RowF A w2 vi i.length 1 (mkCells 1 (i.length * 1))) := HI1.out.turns ht (fun k hk hb => (HF.out.2.1 k hk).2.1 hb)
  have HH2 : Hid (RowsF B w2 vh hh.length U (lens hh) (mkRows (1 + (i.length : Int)) (lens hh))) := hr
  have HE2 : Hid (RowF C w2 vs ev.length 7 (cellsL ev)) := HE1.out.turns ht (fun k hk hb => (HF.out.2.2.1 k hb).2 hk)
  have HP2 : Hid (Bk w2 w.heap.size 36 #[.int .i64 n, .int .i64 s, vi, vh, vs, .int .i64 z]) := HP1.out.turns ht (fun hk => by have := HF.out.1 _ (HF.out.2.2.1 _ hk).1; omega)
  have p4 := HP2.out.cell (i := 4) rfl
  clear hr ht HI1 HH1 HE1 HP1 HT1
  go_wp2_with fail
  clear p4
  refine (markEF (F := C) (1 + (i.length : Int) + 4 * (sumL (lens hh) hh.length : Int)) (by omega) (by omega) (by omega) HE2.out).mono ?_
  rintro e w3 ⟨rfl, hr, ht⟩
  have HT3 : Hid (Turns F W0 w3) := HT2.out.trans (ht.mono (fun k hk => HF.out.2.2.2 k hk))
  have HI3 : Hid (RowF A w3 vi i.length 1 (mkCells 1 (i.length * 1))) := HI2.out.turns ht (fun k hk hc => (HF.out.2.1 k hk).2.2 hc)
  have HH3 : Hid (RowsF B w3 vh hh.length U (lens hh) (mkRows (1 + (i.length : Int)) (lens hh))) := HH2.out.turns ht (fun k hk hc => (HF.out.2.2.1 k hk).2 hc)
  have HE3 : Hid (RowF C w3 vs ev.length 7 (mkCells (1 + (i.length : Int) + 4 * (sumL (lens hh) hh.length : Int)) (ev.length * 7))) := hr
  clear hr ht HI2 HH2 HE2 HP2 HT2
  go_wp2
  go_ret
  exact ⟨rfl, ⟨A, B, C, vi, vh, vs, U, rfl, HI3.out, HH3.out, HE3.out, HF.out.2⟩, (Turns.of_below HB0.out).trans HT3.out⟩

end Go.Proofs.YtmpoffepoafblaaGreat

/- States: what they hold, how they come in, are held against each other, marked, and found again. -/
namespace Go.Proofs.YtmpoffepoafblaaGreat
open Go.RowKit
structure St where
  r : List Int
  q : Int
  d : Int
def IsS (w : World) (x : Value) (s : St) : Prop := ∃ vr, x = .agg #[vr, .int .i64 s.q, .int .i64 s.d] ∧ IsI w vr s.r
theorem IsS.below {w w' : World} {x : Value} {s : St} (h : IsS w x s) (hb : Below w.heap.size w w') : IsS w' x s := by
  obtain ⟨vr, rfl, h⟩ := h
  exact ⟨vr, rfl, h.below hb⟩
/- A state whose registers lie in a block of F. -/
def StF (F : Nat → Prop) (w : World) (x : Value) (s : St) : Prop := ∃ vr, x = .agg #[vr, .int .i64 s.q, .int .i64 s.d] ∧ RowF F w vr s.r.length 1 (intCells s.r)
theorem StF.isS {F : Nat → Prop} {w : World} {x : Value} {s : St} (h : StF F w x s) : IsS w x s := by
  obtain ⟨vr, rfl, h⟩ := h
  exact ⟨vr, rfl, h.isI⟩
theorem StF.turns {F S : Nat → Prop} {w w' : World} {x : Value} {s : St} (h : StF F w x s) (ht : Turns S w w') (hS : ∀ k, F k → ¬ S k) : StF F w' x s := by
  obtain ⟨vr, rfl, h⟩ := h
  exact ⟨vr, rfl, h.turns ht hS⟩
theorem StF.below {F : Nat → Prop} {w w' : World} {x : Value} {s : St} (h : StF F w x s) (hb : Below w.heap.size w w') : StF F w' x s :=
  h.turns (S := fun _ => False) (Turns.of_below hb) (fun _ _ => id)
theorem StF.mono {F F' : Nat → Prop} {w : World} {x : Value} {s : St} (h : StF F w x s) (hF : ∀ k, F k → F' k) : StF F' w x s := by
  obtain ⟨vr, rfl, h⟩ := h
  exact ⟨vr, rfl, h.mono hF⟩
theorem StF.form {F : Nat → Prop} {w : World} {x : Value} {s : St} (h : StF F w x s) : ∃ a c, x = .agg #[.slice a s.r.length c, .int .i64 s.q, .int .i64 s.d] := by
  obtain ⟨vr, rfl, _, a, c, rfl, _⟩ := h
  exact ⟨a, c, rfl⟩
/- The state whose registers hold the marks from z on. -/
def HeldS (F : Nat → Prop) (w : World) (x : Value) (s : St) (z : Int) : Prop := ∃ vr, x = .agg #[vr, .int .i64 s.q, .int .i64 s.d] ∧ RowF F w vr s.r.length 1 (mkCells z (s.r.length * 1))
theorem HeldS.turns {F S : Nat → Prop} {w w' : World} {x : Value} {s : St} {z : Int} (h : HeldS F w x s z) (ht : Turns S w w') (hS : ∀ k, F k → ¬ S k) : HeldS F w' x s z := by
  obtain ⟨vr, rfl, h⟩ := h
  exact ⟨vr, rfl, h.turns ht hS⟩
theorem HeldS.below {F : Nat → Prop} {w w' : World} {x : Value} {s : St} {z : Int} (h : HeldS F w x s z) (hb : Below w.heap.size w w') : HeldS F w' x s z :=
  h.turns (S := fun _ => False) (Turns.of_below hb) (fun _ _ => id)
abbrev put3 (w : World) (R : Nat) (v0 v1 v2 : Value) : World := ((w.setCell ⟨R, 0, none⟩ v0).setCell ⟨R, 1, none⟩ v1).setCell ⟨R, 2, none⟩ v2
theorem Bk.put3 {w : World} {R : Nat} {T : TypeId} {a0 a1 a2 : Value} (h : Bk w R T #[a0, a1, a2]) (v0 v1 v2 : Value) : Bk (put3 w R v0 v1 v2) R T #[v0, v1, v2] :=
  ((h.put 0 v0).put 1 v1).put 2 v2
theorem put3_turns (w : World) (R : Nat) (v0 v1 v2 : Value) : Turns (fun b => b = R) w (put3 w R v0 v1 v2) :=
  ((put1_turns w R 0 v0).trans (put1_turns _ R 1 v1)).trans (put1_turns _ R 2 v2)
set_option maxHeartbeats 2000000 in
theorem szState_any (x : Value) (s : St) (left : Int) (w : World) (h0 : 0 ≤ left) (h1 : left ≤ 1048576) (h : IsS w x s) :
    Calls Tryz.prog 112 #[x, .int .i64 left] w fun e w' => (∃ r, e = .returned (.int .i64 r) ∧ (r = -1 ∨ (0 ≤ r ∧ r ≤ 1048576 ∧ s.r.length ≤ 1048576))) ∧ Below w.heap.size w w' := by
  obtain ⟨vr, rfl, a1, c1, rfl, hi1, hi2, _⟩ := h
  obtain ⟨l, q, d⟩ := s
  have HI : Hid (l.length ≤ maxLen) := Nat.le_trans hi1 hi2
  clear hi1 hi2
  obtain ⟨W0, hW0⟩ : ∃ W0, w.alloc (.cells #[.slice a1 l.length c1, .int .i64 q, .int .i64 d] 84) = W0 := ⟨_, rfl⟩
  have HB0 : Hid (Below w.heap.size w W0) := by rw [← hW0]; exact (Below.refl _ w).alloc (Nat.le_refl _) _
  have HP0 : Bk W0 w.heap.size 84 #[.slice a1 l.length c1, .int .i64 q, .int .i64 d] := by rw [← hW0]; exact Bk.new w _ _
  have p0 := HP0.cell (i := 0) rfl
  clear HP0
  go_enter Tryz.func112, Tryz.ntmps112
  go_wp2_with fail
  refine (szI_any _ _ _ _ _ HI.out h0 h1).mono ?_
  rintro e w' ⟨rfl, hw⟩
  have hw' := hw.symm
  clear hw
  subst hw'
  clear hW0
  generalize hq : szN l.length left = t
  have ht : t = -1 ∨ (0 ≤ t ∧ t ≤ 1048576 ∧ l.length ≤ 1048576) := by
    unfold szN at hq
    split at hq <;> omega
  clear hq
  rcases ht with rfl | ⟨t0, t1, t3⟩
  · go_wp2
    go_ret
    exact ⟨⟨_, rfl, .inl rfl⟩, HB0.out⟩
  · have t2 : ¬ (t < 0) := by omega
    go_wp2
    go_ret
    exact ⟨⟨_, rfl, .inr ⟨t0, t1, t3⟩⟩, HB0.out⟩
set_option maxHeartbeats 2000000 in
theorem eqState_same (x y : Value) (s : St) (w : World) (hs : s.r.length ≤ 1048576) (hx : IsS w x s) (hy : IsS w y s) :
    Calls Tryz.prog 105 #[x, y] w fun e w' => e = .returned (.bool true) ∧ Below w.heap.size w w' := by
  obtain ⟨vr, rfl, h1⟩ := hx
  obtain ⟨ur, rfl, k1⟩ := hy
  obtain ⟨l, q, d⟩ := s
  have HI : Hid (IsI w vr l ∧ IsI w ur l) := ⟨h1, k1⟩
  have HS : Hid (l.length ≤ 4611686018427387904) := (by have : l.length ≤ 1048576 := hs; omega : l.length ≤ 4611686018427387904)
  clear h1 k1 hs
  obtain ⟨W0, hW0⟩ : ∃ W0, (w.alloc (.cells #[vr, .int .i64 q, .int .i64 d] 48)).alloc (.cells #[ur, .int .i64 q, .int .i64 d] 48) = W0 := ⟨_, rfl⟩
  have HB0 : Hid (Below w.heap.size w W0) := by rw [← hW0]; exact ((Below.refl _ w).alloc (Nat.le_refl _) _).alloc (by simp) _
  have HP0 : Hid (Bk W0 w.heap.size 48 #[vr, .int .i64 q, .int .i64 d]) := by rw [← hW0]; exact (Bk.new w _ _).alloc _
  have HQ0 : Hid (Bk W0 (w.heap.size + 1) 48 #[ur, .int .i64 q, .int .i64 d]) := by rw [← hW0]; exact Bk.newAt (by simp) _ _
  have p0 := HP0.out.cell (i := 0) rfl
  have q0 := HQ0.out.cell (i := 0) rfl
  go_enter Tryz.func105, Tryz.ntmps105
  go_wp2_with fail
  clear p0 q0 hW0
  refine (eqI_same _ _ l _ HS.out (HI.out.1.below HB0.out) (HI.out.2.below HB0.out)).mono ?_
  rintro e w1 ⟨rfl, hb⟩
  have HB1 : Hid (Below w.heap.size w w1) := HB0.out.trans (hb.mono HB0.out.size)
  have p1 := (HP0.out.below hb).cell (i := 1) rfl
  have q1 := (HQ0.out.below hb).cell (i := 1) rfl
  have p2 := (HP0.out.below hb).cell (i := 2) rfl
  have q2 := (HQ0.out.below hb).cell (i := 2) rfl
  clear hb HB0 HP0 HQ0
  go_wp2
  go_ret
  exact ⟨rfl, HB1.out⟩
set_option maxHeartbeats 2000000 in
theorem markState_any {F : Nat → Prop} {x : Value} {s : St} {w : World} (z : Int) (hs : s.r.length ≤ 1048577) (hz0 : 0 ≤ z) (hz1 : z ≤ 1073741824) (h : StF F w x s) :
    Calls Tryz.prog 107 #[x, .int .i64 z] w fun e w' => e = .returned (.int .i64 (z + (s.r.length : Int))) ∧ HeldS F w' x s z ∧ Turns F w w' := by
  obtain ⟨vr, rfl, h1⟩ := h
  obtain ⟨l, q, d⟩ := s
  have HI : Hid (RowF F w vr l.length 1 (intCells l)) := h1
  have hl : l.length ≤ 1048577 := hs
  clear h1 hs
  obtain ⟨W0, hW0⟩ : ∃ W0, w.alloc (.cells #[vr, .int .i64 q, .int .i64 d] 48) = W0 := ⟨_, rfl⟩
  have HB0 : Hid (Below w.heap.size w W0) := by rw [← hW0]; exact (Below.refl _ w).alloc (Nat.le_refl _) _
  have HP0 : Hid (Bk W0 w.heap.size 48 #[vr, .int .i64 q, .int .i64 d]) := by rw [← hW0]; exact Bk.new w _ _
  have p0 := HP0.out.cell (i := 0) rfl
  go_enter Tryz.func107, Tryz.ntmps107
  go_wp2_with fail
  clear p0 hW0
  refine (markIF (F := F) z hl hz0 hz1 (HI.out.below HB0.out)).mono ?_
  rintro e w1 ⟨rfl, hr, ht⟩
  go_wp2
  go_ret
  exact ⟨rfl, ⟨vr, rfl, hr⟩, (Turns.of_below HB0.out).trans ht⟩
set_option maxHeartbeats 2000000 in
theorem heldState_any {F : Nat → Prop} {x : Value} {s : St} {w : World} (z : Int) (hs : s.r.length ≤ 1048577) (hz0 : 0 ≤ z) (hz1 : z ≤ 1073741824) (h : HeldS F w x s z) :
    Calls Tryz.prog 109 #[x, .int .i64 z] w fun e w' => e = .returned (.int .i64 (z + (s.r.length : Int))) ∧ Below w.heap.size w w' := by
  obtain ⟨vr, rfl, h1⟩ := h
  obtain ⟨l, q, d⟩ := s
  have HI : Hid (RowF F w vr l.length 1 (mkCells z (l.length * 1))) := h1
  have hl : l.length ≤ 1048577 := hs
  clear h1 hs
  obtain ⟨W0, hW0⟩ : ∃ W0, w.alloc (.cells #[vr, .int .i64 q, .int .i64 d] 48) = W0 := ⟨_, rfl⟩
  have HB0 : Hid (Below w.heap.size w W0) := by rw [← hW0]; exact (Below.refl _ w).alloc (Nat.le_refl _) _
  have HP0 : Hid (Bk W0 w.heap.size 48 #[vr, .int .i64 q, .int .i64 d]) := by rw [← hW0]; exact Bk.new w _ _
  have p0 := HP0.out.cell (i := 0) rfl
  have n1 : ¬ (z + (l.length : Int) < 0) := by omega
  go_enter Tryz.func109, Tryz.ntmps109
  go_wp2_with fail
  clear p0 hW0
  refine (heldIF (F := F) z hl hz0 hz1 (HI.out.below HB0.out)).mono ?_
  rintro e w' ⟨rfl, hw⟩
  have hw' := hw.symm
  clear hw
  subst hw'
  go_wp2
  go_ret
  exact ⟨rfl, HB0.out⟩
set_option maxHeartbeats 2000000 in
theorem toState_any (x : Value) (s : St) (w : World) (hs : s.r.length ≤ 1048576) (h : IsS w x s) :
    Calls Tryz.prog 118 #[x] w fun e w' => ∃ y, e = .returned y ∧ Below w.heap.size w w' ∧ StF (fun k => w.heap.size ≤ k ∧ k < w'.heap.size) w' y s := by
  obtain ⟨vr, rfl, h1⟩ := h
  obtain ⟨i, n, z⟩ := s
  have HI : Hid (IsI w vr i) := h1
  have HS : Hid (i.length ≤ 1048576) := hs
  clear h1 hs
  obtain ⟨W0, hW0⟩ : ∃ W0, ((w.alloc (.cells #[vr, .int .i64 n, .int .i64 z] 84)).alloc (.cells #[.slice none 0 0, .int .i64 0, .int .i64 0] 48)).alloc (.cells #[.slice none 0 0, .int .i64 0, .int .i64 0] 48) = W0 := ⟨_, rfl⟩
  have HB0 : Hid (Below w.heap.size w W0) := by rw [← hW0]; exact (((Below.refl _ w).alloc (Nat.le_refl _) _).alloc (by simp) _).alloc (by simp; omega) _
  have HP0 : Hid (Bk W0 w.heap.size 84 #[vr, .int .i64 n, .int .i64 z]) := by rw [← hW0]; exact ((Bk.new w _ _).alloc _).alloc _
  have HR0 : Hid (Bk W0 (w.heap.size + 1) 48 #[.slice none 0 0, .int .i64 0, .int .i64 0]) := by rw [← hW0]; exact (Bk.newAt (by simp) _ _).alloc _
  have HQ0 : Hid (Bk W0 (w.heap.size + 1 + 1) 48 #[.slice none 0 0, .int .i64 0, .int .i64 0]) := by rw [← hW0]; exact Bk.newAt (by simp) _ _
  have HW0 : Hid (((w.alloc (.cells #[vr, .int .i64 n, .int .i64 z] 84)).alloc (.cells #[.slice none 0 0, .int .i64 0, .int .i64 0] 48)).alloc (.cells #[.slice none 0 0, .int .i64 0, .int .i64 0] 48) = W0) := hW0
  clear hW0
  go_enter Tryz.func118, Tryz.ntmps118
  go_wp2_with fail
  rw [HW0.out]
  clear HW0
  refine (toI_any _ i _ HS.out (HI.out.below HB0.out)).mono ?_
  rintro e w1 ⟨rfl, hb, hr⟩
  have HI1 : Hid (RowI w1 W0.heap.size i) := hr
  have hz1 : W0.heap.size < w1.heap.size := hr.1
  have hq := HQ0.out.lt
  have HX1 : Hid (Below w.heap.size w w1) := HB0.out.trans (hb.mono (by omega))
  have HPa := HP0.out.below hb
  have HRa := HR0.out.below hb
  have HQa := HQ0.out.below hb
  clear hb hr HB0 HP0 HR0 HQ0
  obtain ⟨X1, hX1⟩ : ∃ X1, w1.setCell ⟨w.heap.size + 1 + 1, 0, none⟩ (sl W0.heap.size i.length) = X1 := ⟨_, rfl⟩
  obtain ⟨X2, hX2⟩ : ∃ X2, X1.setCell ⟨w.heap.size + 1 + 1, 1, none⟩ (.int .i64 n) = X2 := ⟨_, rfl⟩
  obtain ⟨X3, hX3⟩ : ∃ X3, X2.setCell ⟨w.heap.size + 1 + 1, 2, none⟩ (.int .i64 z) = X3 := ⟨_, rfl⟩
  have a0 := HQa.cell (i := 0) rfl
  have af := HQa.free
  have HP1 : Bk X1 w.heap.size 84 #[vr, .int .i64 n, .int .i64 z] := hX1 ▸ HPa.other 0 _ (by omega)
  have HR1 : Bk X1 (w.heap.size + 1) 48 #[.slice none 0 0, .int .i64 0, .int .i64 0] := hX1 ▸ HRa.other 0 _ (by omega)
  have HQ1 : Bk X1 (w.heap.size + 1 + 1) 48 #[sl W0.heap.size i.length, .int .i64 0, .int .i64 0] := hX1 ▸ HQa.put 0 _
  have p1 := HP1.cell (i := 1) rfl
  have b1 := HQ1.cell (i := 1) rfl
  have bf := HQ1.free
  have HP2 : Bk X2 w.heap.size 84 #[vr, .int .i64 n, .int .i64 z] := hX2 ▸ HP1.other 1 _ (by omega)
  have HR2 : Bk X2 (w.heap.size + 1) 48 #[.slice none 0 0, .int .i64 0, .int .i64 0] := hX2 ▸ HR1.other 1 _ (by omega)
  have HQ2 : Bk X2 (w.heap.size + 1 + 1) 48 #[sl W0.heap.size i.length, .int .i64 n, .int .i64 0] := hX2 ▸ HQ1.put 1 _
  have p2 := HP2.cell (i := 2) rfl
  have c2 := HQ2.cell (i := 2) rfl
  have cf := HQ2.free
  have HR3 : Bk X3 (w.heap.size + 1) 48 #[.slice none 0 0, .int .i64 0, .int .i64 0] := hX3 ▸ HR2.other 2 _ (by omega)
  have HQ3 : Bk X3 (w.heap.size + 1 + 1) 48 #[sl W0.heap.size i.length, .int .i64 n, .int .i64 z] := hX3 ▸ HQ2.put 2 _
  have o0 := HQ3.cell (i := 0) rfl
  have o1 := HQ3.cell (i := 1) rfl
  have o2 := HQ3.cell (i := 2) rfl
  have r0 := HR3.cell (i := 0) rfl
  have r1 := HR3.cell (i := 1) rfl
  have r2 := HR3.cell (i := 2) rfl
  have rf := HR3.free
  have HR4 : Hid (Bk X3 (w.heap.size + 1) 48 #[.slice none 0 0, .int .i64 0, .int .i64 0]) := HR3
  have t1 := put1_turns w1 (w.heap.size + 1 + 1) 0 (sl W0.heap.size i.length)
  have t2 := put1_turns X1 (w.heap.size + 1 + 1) 1 (.int .i64 n)
  have t3 := put1_turns X2 (w.heap.size + 1 + 1) 2 (.int .i64 z)
  rw [hX1] at t1
  rw [hX2] at t2
  rw [hX3] at t3
  have HT : Hid (Turns (fun k => k = w.heap.size + 1 + 1) w1 X3) := (t1.trans t2).trans t3
  clear HPa HRa HQa HP1 HR1 HQ1 HP2 HR2 HQ2 HR3 HQ3 t1 t2 t3
  go_wp2
  clear o0 o1 o2 r0 r1 r2 rf a0 af p1 b1 bf p2 c2 cf
  obtain ⟨X5, hX5⟩ : ∃ X5, put3 X3 (w.heap.size + 1) (.slice (some ⟨W0.heap.size, 0, none⟩) i.length i.length) (.int .i64 n) (.int .i64 z) = X5 := ⟨_, rfl⟩
  have hR := HR4.out.put3 (.slice (some ⟨W0.heap.size, 0, none⟩) i.length i.length) (.int .i64 n) (.int .i64 z)
  have ht := put3_turns X3 (w.heap.size + 1) (.slice (some ⟨W0.heap.size, 0, none⟩) i.length i.length) (.int .i64 n) (.int .i64 z)
  rw [hX5] at hR ht
  unfold put3 at hX5
  rw [hX5]
  have t0 := hR.cell (i := 0) rfl
  have t1 := hR.cell (i := 1) rfl
  have t2 := hR.cell (i := 2) rfl
  have hT : Turns (fun k => k = w.heap.size + 1 + 1 ∨ k = w.heap.size + 1) w1 X5 := (HT.out.mono (fun k e => .inl e)).trans (ht.mono (fun k e => .inr e))
  have hsz := hT.size
  refine bodyPost_ret (v := .agg #[sl W0.heap.size i.length, .int .i64 n, .int .i64 z]) (by simp [results, Tryz.results118, go_sem, t0, t1, t2]) rfl
    ⟨_, rfl, HX1.out.trans (hT.to_below (fun k e => by omega) (by omega)), _, rfl, ?_⟩
  exact ((HI1.out.rowF (by have := HS.out; unfold maxLen; omega)).turns hT (fun k e => by omega)).mono (fun k e => by omega)
end Go.Proofs.YtmpoffepoafblaaGreat

