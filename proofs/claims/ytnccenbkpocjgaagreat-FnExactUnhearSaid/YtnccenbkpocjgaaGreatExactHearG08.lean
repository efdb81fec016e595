/- TPtC, TMk -/
import Derived.Test.YtnccenbkpocjgaaGreatExactHearG07
import Derived.Test.YtnccenbkpocjgaaGreatExactHearG06
/- toPart: a copy of its own. -/
namespace Go.Proofs.YtnccenbkpocjgaaGreat
open Go.RowKit
theorem hidTPtC {p : Prop} (h : p) : Hid p := h
def PartF (F : Nat → Prop) (w : World) (y : Value) (p : Pa) : Prop :=
 ∃ (A1 A4 A5 A6 : Nat → Prop) (u1 u4 u5 u6 : Value), y = .agg #[.int .i64 p.n, u1, .int .i64 p.st.q, .int .i64 p.st.d, u4, u5, u6] ∧ OwnD w A1 u1 (intsD p.st.r) ∧ OwnD w A4 u4 (pastsD p.p) ∧ OwnD w A5 u5 (evsD p.t) ∧ OwnD w A6 u6 (intsD p.a) ∧ (∀ k, A1 k → F k ∧ ¬ A4 k ∧ ¬ A5 k ∧ ¬ A6 k) ∧ (∀ k, A4 k → F k ∧ ¬ A5 k ∧ ¬ A6 k) ∧ (∀ k, A5 k → F k ∧ ¬ A6 k) ∧ (∀ k, A6 k → F k)
theorem PartF.is {F : Nat → Prop} {w : World} {y : Value} {p : Pa} (h : PartF F w y p) : IsPart w y p := by
 obtain ⟨A1, A4, A5, A6, u1, u4, u5, u6, rfl, h1, h4, h5, h6, d1, d4, d5, d6⟩ := h
 exact ⟨u1, u4, u5, u6, rfl, h1.isD, h4.isD, h5.isD, h6.isD⟩
theorem PartF.turns {F S : Nat → Prop} {w w' : World} {y : Value} {p : Pa} (h : PartF F w y p) (ht : Turns S w w') (hS : ∀ k, F k → ¬ S k) : PartF F w' y p := by
 obtain ⟨A1, A4, A5, A6, u1, u4, u5, u6, rfl, h1, h4, h5, h6, d1, d4, d5, d6⟩ := h
 exact ⟨A1, A4, A5, A6, u1, u4, u5, u6, rfl, h1.turns ht (fun k hk => hS k (d1 k hk).1), h4.turns ht (fun k hk => hS k (d4 k hk).1), h5.turns ht (fun k hk => hS k (d5 k hk).1), h6.turns ht (fun k hk => hS k (d6 k hk)), d1, d4, d5, d6⟩
theorem PartF.under {F : Nat → Prop} {w w' : World} {y : Value} {p : Pa} (h : PartF F w y p) (hb : Below w.heap.size w w') : PartF F w' y p :=
 h.turns (S := fun _ => False) (Turns.of_below hb) (fun _ _ => id)
theorem PartF.form {F : Nat → Prop} {w : World} {y : Value} {p : Pa} (h : PartF F w y p) : ∃ a1 c1 a4 c4 a5 c5 a6 c6, y = .agg #[.int .i64 p.n, .slice a1 p.st.r.length c1, .int .i64 p.st.q, .int .i64 p.st.d, .slice a4 p.p.length c4, .slice a5 p.t.length c5, .slice a6 p.a.length c6] := by
 obtain ⟨A1, A4, A5, A6, u1, u4, u5, u6, rfl, h1, h4, h5, h6, d1, d4, d5, d6⟩ := h
 obtain ⟨a1, c1, rfl, _⟩ := OwnD.parts (c := 1) (n := p.st.r.length) h1
 obtain ⟨a4, c4, rfl, _⟩ := OwnD.parts (c := 12) (n := p.p.length) h4
 obtain ⟨a5, c5, rfl, _⟩ := OwnD.parts (c := 7) (n := p.t.length) h5
 obtain ⟨a6, c6, rfl, _⟩ := OwnD.parts (c := 1) (n := p.a.length) h6
 exact ⟨a1, c1, a4, c4, a5, c5, a6, c6, rfl⟩
set_option maxHeartbeats 8000000 in
theorem toPart_any (x : Value) (p : Pa) (w : World) (hw : p.wt ≤ 1048576) (h : IsPart w x p) :
  Calls Tryz.prog 18 #[x] w fun e w' => ∃ y, e = .returned y ∧ Below w.heap.size w w' ∧ PartF (fun k => w.heap.size ≤ k ∧ k < w'.heap.size) w' y p := by
 obtain ⟨u1, u4, u5, u6, rfl, h1, h4, h5, h6⟩ := h
 have HS : Hid (p.wt ≤ 1048576) := hw
 have H1 := hidTPtC h1
 have H4 := hidTPtC h4
 have H5 := hidTPtC h5
 have H6 := hidTPtC h6
 clear hw h1 h4 h5 h6
 obtain ⟨V0, hV0⟩ : ∃ V0, ((w.alloc (.cells #[.int .i64 p.n, u1, .int .i64 p.st.q, .int .i64 p.st.d, u4, u5, u6] 48)).alloc (.cells #[.int .i64 0, .slice none 0 0, .int .i64 0, .int .i64 0, .slice none 0 0, .slice none 0 0, .slice none 0 0] 33)).alloc (.cells #[.int .i64 0, .slice none 0 0, .int .i64 0, .int .i64 0, .slice none 0 0, .slice none 0 0, .slice none 0 0] 33) = V0 := ⟨_, rfl⟩
 have HX0 : Hid (Below w.heap.size w V0) := by rw [← hV0]; exact (((Below.refl _ w).alloc (Nat.le_refl _) _).alloc (by simp) _).alloc (by simp; omega) _
 have hs0 : w.heap.size + 3 ≤ V0.heap.size := by rw [← hV0]; simp
 have HP0 : Hid (Bk V0 w.heap.size 48 #[.int .i64 p.n, u1, .int .i64 p.st.q, .int .i64 p.st.d, u4, u5, u6]) := by rw [← hV0]; exact ((Bk.new w _ _).alloc _).alloc _
 have HR0 : Hid (Bk V0 (w.heap.size + 1) 33 #[.int .i64 0, .slice none 0 0, .int .i64 0, .int .i64 0, .slice none 0 0, .slice none 0 0, .slice none 0 0]) := by rw [← hV0]; exact (Bk.newAt (by simp) _ _).alloc _
 have HQ0 : Hid (Bk V0 (w.heap.size + 1 + 1) 33 #[.int .i64 0, .slice none 0 0, .int .i64 0, .int .i64 0, .slice none 0 0, .slice none 0 0, .slice none 0 0]) := by rw [← hV0]; exact Bk.newAt (by simp) _ _
 have HW0 := hidTPtC hV0
 clear hV0
 go_enter Tryz.func18, Tryz.ntmps18
 have pp0 := HP0.out.cell (i := 0) rfl
 have qq0 := HQ0.out.cell (i := 0) rfl
 have qf0 := HQ0.out.free
 have hV0 := HW0.out
 obtain ⟨V1, hV1⟩ : ∃ V1, (V0.setCell ⟨(w.heap.size + 1 + 1), 0, none⟩ (.int .i64 p.n)) = V1 := ⟨_, rfl⟩
 have HY0 := HQ0.out
 obtain ⟨Y1, hY1⟩ : ∃ Y1, V0.setCell ⟨(w.heap.size + 1 + 1), 0, none⟩ (.int .i64 p.n) = Y1 := ⟨_, rfl⟩
 have HY1 : Bk Y1 (w.heap.size + 1 + 1) 33 #[.int .i64 p.n, .slice none 0 0, .int .i64 0, .int .i64 0, .slice none 0 0, .slice none 0 0, .slice none 0 0] := hY1 ▸ HY0.put 0 _
 clear HY0
 have hYV : Y1 = V1 := by rw [← hV1, hY1]
 have HQ1 : Hid (Bk V1 (w.heap.size + 1 + 1) 33 #[.int .i64 p.n, .slice none 0 0, .int .i64 0, .int .i64 0, .slice none 0 0, .slice none 0 0, .slice none 0 0]) := hYV ▸ HY1
 clear HY1 hYV hY1
 have HP1 : Hid (Bk V1 w.heap.size 48 #[.int .i64 p.n, u1, .int .i64 p.st.q, .int .i64 p.st.d, u4, u5, u6]) := by rw [← hV1]; exact (HP0.out.other 0 _ (by omega))
 have HR1 : Hid (Bk V1 (w.heap.size + 1) 33 #[.int .i64 0, .slice none 0 0, .int .i64 0, .int .i64 0, .slice none 0 0, .slice none 0 0, .slice none 0 0]) := by rw [← hV1]; exact (HR0.out.other 0 _ (by omega))
 have HT1 : Hid (Turns (fun k => k = (w.heap.size + 1 + 1)) V0 V1) := by rw [← hV1]; exact put1_turns _ _ 0 _
 have hy1 : V0.heap.size ≤ V1.heap.size := HT1.out.size
 have HX1 := hidTPtC (HX0.out.trans (HT1.out.to_below (fun k e => by omega) (by omega)))
 clear HP0 HR0 HQ0 HX0
 have p1 := HP1.out.cell (i := 1) rfl
 have p2 := HP1.out.cell (i := 2) rfl
 have p3 := HP1.out.cell (i := 3) rfl
 go_wp2_with fail
 clear pp0 qq0 qf0 hV0 hV1 p1 p2 p3
 refine (toState_any _ p.st _ (by have := HS.out; unfold Pa.wt at this; simp only [evs_wt, ints_wt] at this; omega) ⟨_, rfl, (H1.out.under HX1.out).isI⟩).mono ?_
 rintro e w2 ⟨y1, rfl, hb, vr1, rfl, ho1⟩
 have HO1 := hidTPtC ho1.own
 obtain ⟨_, a1, c1, rfl, _⟩ := ho1
 have hz1 : V1.heap.size ≤ w2.heap.size := hb.size
 have HXb1 := hidTPtC (HX1.out.trans (hb.mono (by omega)))
 have HPb1 := hidTPtC (HP1.out.below hb)
 have HRb1 := hidTPtC (HR1.out.below hb)
 have HQb1 := hidTPtC (HQ1.out.below hb)
 clear hb
 obtain ⟨V2, hV2⟩ : ∃ V2, (((w2.setCell ⟨(w.heap.size + 1 + 1), 1, none⟩ (.slice a1 p.st.r.length c1)).setCell ⟨(w.heap.size + 1 + 1), 2, none⟩ (.int .i64 p.st.q)).setCell ⟨(w.heap.size + 1 + 1), 3, none⟩ (.int .i64 p.st.d)) = V2 := ⟨_, rfl⟩
 have qq1 := HQb1.out.cell (i := 1) rfl
 have qq2 := HQb1.out.cell (i := 2) rfl
 have qq3 := HQb1.out.cell (i := 3) rfl
 have qf1 := HQb1.out.free
 have HY1 := HQb1.out
 obtain ⟨Y2, hY2⟩ : ∃ Y2, w2.setCell ⟨(w.heap.size + 1 + 1), 1, none⟩ (.slice a1 p.st.r.length c1) = Y2 := ⟨_, rfl⟩
 have HY2 : Bk Y2 (w.heap.size + 1 + 1) 33 #[.int .i64 p.n, .slice a1 p.st.r.length c1, .int .i64 0, .int .i64 0, .slice none 0 0, .slice none 0 0, .slice none 0 0] := hY2 ▸ HY1.put 1 _
 clear HY1
 obtain ⟨Y3, hY3⟩ : ∃ Y3, Y2.setCell ⟨(w.heap.size + 1 + 1), 2, none⟩ (.int .i64 p.st.q) = Y3 := ⟨_, rfl⟩
 have HY3 : Bk Y3 (w.heap.size + 1 + 1) 33 #[.int .i64 p.n, .slice a1 p.st.r.length c1, .int .i64 p.st.q, .int .i64 0, .slice none 0 0, .slice none 0 0, .slice none 0 0] := hY3 ▸ HY2.put 2 _
 clear HY2
 obtain ⟨Y4, hY4⟩ : ∃ Y4, Y3.setCell ⟨(w.heap.size + 1 + 1), 3, none⟩ (.int .i64 p.st.d) = Y4 := ⟨_, rfl⟩
 have HY4 : Bk Y4 (w.heap.size + 1 + 1) 33 #[.int .i64 p.n, .slice a1 p.st.r.length c1, .int .i64 p.st.q, .int .i64 p.st.d, .slice none 0 0, .slice none 0 0, .slice none 0 0] := hY4 ▸ HY3.put 3 _
 clear HY3
 have hYV : Y4 = V2 := by rw [← hV2, hY2, hY3, hY4]
 have HQ2 : Hid (Bk V2 (w.heap.size + 1 + 1) 33 #[.int .i64 p.n, .slice a1 p.st.r.length c1, .int .i64 p.st.q, .int .i64 p.st.d, .slice none 0 0, .slice none 0 0, .slice none 0 0]) := hYV ▸ HY4
 clear HY4 hYV hY4 hY3 hY2
 have HP2 : Hid (Bk V2 w.heap.size 48 #[.int .i64 p.n, u1, .int .i64 p.st.q, .int .i64 p.st.d, u4, u5, u6]) := by rw [← hV2]; exact (((HPb1.out.other 1 _ (by omega)).other 2 _ (by omega)).other 3 _ (by omega))
 have HR2 : Hid (Bk V2 (w.heap.size + 1) 33 #[.int .i64 0, .slice none 0 0, .int .i64 0, .int .i64 0, .slice none 0 0, .slice none 0 0, .slice none 0 0]) := by rw [← hV2]; exact (((HRb1.out.other 1 _ (by omega)).other 2 _ (by omega)).other 3 _ (by omega))
 have HT2 : Hid (Turns (fun k => k = (w.heap.size + 1 + 1)) w2 V2) := by rw [← hV2]; exact ((put1_turns _ _ 1 _).trans (put1_turns _ _ 2 _)).trans (put1_turns _ _ 3 _)
 have hy2 : w2.heap.size ≤ V2.heap.size := HT2.out.size
 have HX2 := hidTPtC (HXb1.out.trans (HT2.out.to_below (fun k e => by omega) (by omega)))
 have HO1' : Hid (OwnD V2 (fun k => V1.heap.size ≤ k ∧ k < w2.heap.size) (.slice a1 p.st.r.length c1) (intsD p.st.r)) := HO1.out.turns HT2.out (fun k e => by omega)
 clear HO1
 have HO1 := HO1'
 clear HO1'
 clear HPb1 HRb1 HQb1 HXb1 HP1 HR1 HQ1 HX1
 have p4 := HP2.out.cell (i := 4) rfl
 go_wp2_with fail
 clear qq1 qq2 qq3 qf1 hV2 p4
 refine (to_pasts _ p.p _ (by have := HS.out; unfold Pa.wt at this; simp only [evs_wt, ints_wt] at this; omega) (H4.out.under HX2.out)).mono ?_
 rintro e w3 ⟨y4, rfl, hb, ho4⟩
 have HO4 := hidTPtC ho4
 obtain ⟨a4, c4, rfl, _⟩ := OwnD.parts (c := 12) (n := p.p.length) ho4
 clear ho4
 have hz2 : V2.heap.size ≤ w3.heap.size := hb.size
 have HXb2 := hidTPtC (HX2.out.trans (hb.mono (by omega)))
 have HPb2 := hidTPtC (HP2.out.below hb)
 have HRb2 := hidTPtC (HR2.out.below hb)
 have HQb2 := hidTPtC (HQ2.out.below hb)
 have HO1' : Hid (OwnD w3 (fun k => V1.heap.size ≤ k ∧ k < w2.heap.size) (.slice a1 p.st.r.length c1) (intsD p.st.r)) := HO1.out.under hb
 clear HO1
 have HO1 := HO1'
 clear HO1'
 clear hb
 obtain ⟨V3, hV3⟩ : ∃ V3, (w3.setCell ⟨(w.heap.size + 1 + 1), 4, none⟩ (.slice a4 p.p.length c4)) = V3 := ⟨_, rfl⟩
 have qq4 := HQb2.out.cell (i := 4) rfl
 have qf2 := HQb2.out.free
 have HY4 := HQb2.out
 obtain ⟨Y5, hY5⟩ : ∃ Y5, w3.setCell ⟨(w.heap.size + 1 + 1), 4, none⟩ (.slice a4 p.p.length c4) = Y5 := ⟨_, rfl⟩
 have HY5 : Bk Y5 (w.heap.size + 1 + 1) 33 #[.int .i64 p.n, .slice a1 p.st.r.length c1, .int .i64 p.st.q, .int .i64 p.st.d, .slice a4 p.p.length c4, .slice none 0 0, .slice none 0 0] := hY5 ▸ HY4.put 4 _
 clear HY4
 have hYV : Y5 = V3 := by rw [← hV3, hY5]
 have HQ3 : Hid (Bk V3 (w.heap.size + 1 + 1) 33 #[.int .i64 p.n, .slice a1 p.st.r.length c1, .int .i64 p.st.q, .int .i64 p.st.d, .slice a4 p.p.length c4, .slice none 0 0, .slice none 0 0]) := hYV ▸ HY5
 clear HY5 hYV hY5
 have HP3 : Hid (Bk V3 w.heap.size 48 #[.int .i64 p.n, u1, .int .i64 p.st.q, .int .i64 p.st.d, u4, u5, u6]) := by rw [← hV3]; exact (HPb2.out.other 4 _ (by omega))
 have HR3 : Hid (Bk V3 (w.heap.size + 1) 33 #[.int .i64 0, .slice none 0 0, .int .i64 0, .int .i64 0, .slice none 0 0, .slice none 0 0, .slice none 0 0]) := by rw [← hV3]; exact (HRb2.out.other 4 _ (by omega))
 have HT3 : Hid (Turns (fun k => k = (w.heap.size + 1 + 1)) w3 V3) := by rw [← hV3]; exact put1_turns _ _ 4 _
 have hy3 : w3.heap.size ≤ V3.heap.size := HT3.out.size
 have HX3 := hidTPtC (HXb2.out.trans (HT3.out.to_below (fun k e => by omega) (by omega)))
 have HO1' : Hid (OwnD V3 (fun k => V1.heap.size ≤ k ∧ k < w2.heap.size) (.slice a1 p.st.r.length c1) (intsD p.st.r)) := HO1.out.turns HT3.out (fun k e => by omega)
 clear HO1
 have HO1 := HO1'
 clear HO1'
 have HO4' : Hid (OwnD V3 (fun k => V2.heap.size ≤ k ∧ k < w3.heap.size) (.slice a4 p.p.length c4) (pastsD p.p)) := HO4.out.turns HT3.out (fun k e => by omega)
 clear HO4
 have HO4 := HO4'
 clear HO4'
 clear HPb2 HRb2 HQb2 HXb2 HP2 HR2 HQ2 HX2
 have p5 := HP3.out.cell (i := 5) rfl
 go_wp2_with fail
 clear qq4 qf2 hV3 p5
 refine (to_evs _ p.t _ (by have := HS.out; unfold Pa.wt at this; simp only [evs_wt, ints_wt] at this; omega) (H5.out.under HX3.out)).mono ?_
 rintro e w4 ⟨y5, rfl, hb, ho5⟩
 have HO5 := hidTPtC ho5
 obtain ⟨a5, c5, rfl, _⟩ := OwnD.parts (c := 7) (n := p.t.length) ho5
 clear ho5
 have hz3 : V3.heap.size ≤ w4.heap.size := hb.size
 have HXb3 := hidTPtC (HX3.out.trans (hb.mono (by omega)))
 have HPb3 := hidTPtC (HP3.out.below hb)
 have HRb3 := hidTPtC (HR3.out.below hb)
 have HQb3 := hidTPtC (HQ3.out.below hb)
 have HO1' : Hid (OwnD w4 (fun k => V1.heap.size ≤ k ∧ k < w2.heap.size) (.slice a1 p.st.r.length c1) (intsD p.st.r)) := HO1.out.under hb
 clear HO1
 have HO1 := HO1'
 clear HO1'
 have HO4' : Hid (OwnD w4 (fun k => V2.heap.size ≤ k ∧ k < w3.heap.size) (.slice a4 p.p.length c4) (pastsD p.p)) := HO4.out.under hb
 clear HO4
 have HO4 := HO4'
 clear HO4'
 clear hb
 obtain ⟨V4, hV4⟩ : ∃ V4, (w4.setCell ⟨(w.heap.size + 1 + 1), 5, none⟩ (.slice a5 p.t.length c5)) = V4 := ⟨_, rfl⟩
 have qq5 := HQb3.out.cell (i := 5) rfl
 have qf3 := HQb3.out.free
 have HY5 := HQb3.out
 obtain ⟨Y6, hY6⟩ : ∃ Y6, w4.setCell ⟨(w.heap.size + 1 + 1), 5, none⟩ (.slice a5 p.t.length c5) = Y6 := ⟨_, rfl⟩
 have HY6 : Bk Y6 (w.heap.size + 1 + 1) 33 #[.int .i64 p.n, .slice a1 p.st.r.length c1, .int .i64 p.st.q, .int .i64 p.st.d, .slice a4 p.p.length c4, .slice a5 p.t.length c5, .slice none 0 0] := hY6 ▸ HY5.put 5 _
 clear HY5
 have hYV : Y6 = V4 := by rw [← hV4, hY6]
 have HQ4 : Hid (Bk V4 (w.heap.size + 1 + 1) 33 #[.int .i64 p.n, .slice a1 p.st.r.length c1, .int .i64 p.st.q, .int .i64 p.st.d, .slice a4 p.p.length c4, .slice a5 p.t.length c5, .slice none 0 0]) := hYV ▸ HY6
 clear HY6 hYV hY6
 have HP4 : Hid (Bk V4 w.heap.size 48 #[.int .i64 p.n, u1, .int .i64 p.st.q, .int .i64 p.st.d, u4, u5, u6]) := by rw [← hV4]; exact (HPb3.out.other 5 _ (by omega))
 have HR4 : Hid (Bk V4 (w.heap.size + 1) 33 #[.int .i64 0, .slice none 0 0, .int .i64 0, .int .i64 0, .slice none 0 0, .slice none 0 0, .slice none 0 0]) := by rw [← hV4]; exact (HRb3.out.other 5 _ (by omega))
 have HT4 : Hid (Turns (fun k => k = (w.heap.size + 1 + 1)) w4 V4) := by rw [← hV4]; exact put1_turns _ _ 5 _
 have hy4 : w4.heap.size ≤ V4.heap.size := HT4.out.size
 have HX4 := hidTPtC (HXb3.out.trans (HT4.out.to_below (fun k e => by omega) (by omega)))
 have HO1' : Hid (OwnD V4 (fun k => V1.heap.size ≤ k ∧ k < w2.heap.size) (.slice a1 p.st.r.length c1) (intsD p.st.r)) := HO1.out.turns HT4.out (fun k e => by omega)
 clear HO1
 have HO1 := HO1'
 clear HO1'
 have HO4' : Hid (OwnD V4 (fun k => V2.heap.size ≤ k ∧ k < w3.heap.size) (.slice a4 p.p.length c4) (pastsD p.p)) := HO4.out.turns HT4.out (fun k e => by omega)
 clear HO4
 have HO4 := HO4'
 clear HO4'
 have HO5' : Hid (OwnD V4 (fun k => V3.heap.size ≤ k ∧ k < w4.heap.size) (.slice a5 p.t.length c5) (evsD p.t)) := HO5.out.turns HT4.out (fun k e => by omega)
 clear HO5
 have HO5 := HO5'
 clear HO5'
 clear HPb3 HRb3 HQb3 HXb3 HP3 HR3 HQ3 HX3
 have p6 := HP4.out.cell (i := 6) rfl
 go_wp2_with fail
 clear qq5 qf3 hV4 p6
 refine (to_ints _ p.a _ (by have := HS.out; unfold Pa.wt at this; simp only [evs_wt, ints_wt] at this; omega) (H6.out.under HX4.out)).mono ?_
 rintro e w5 ⟨y6, rfl, hb, ho6⟩
 have HO6 := hidTPtC ho6
 obtain ⟨a6, c6, rfl, _⟩ := OwnD.parts (c := 1) (n := p.a.length) ho6
 clear ho6
 have hz4 : V4.heap.size ≤ w5.heap.size := hb.size
 have HXb4 := hidTPtC (HX4.out.trans (hb.mono (by omega)))
 have HPb4 := hidTPtC (HP4.out.below hb)
 have HRb4 := hidTPtC (HR4.out.below hb)
 have HQb4 := hidTPtC (HQ4.out.below hb)
 have HO1' : Hid (OwnD w5 (fun k => V1.heap.size ≤ k ∧ k < w2.heap.size) (.slice a1 p.st.r.length c1) (intsD p.st.r)) := HO1.out.under hb
 clear HO1
 have HO1 := HO1'
 clear HO1'
 have HO4' : Hid (OwnD w5 (fun k => V2.heap.size ≤ k ∧ k < w3.heap.size) (.slice a4 p.p.length c4) (pastsD p.p)) := HO4.out.under hb
 clear HO4
 have HO4 := HO4'
 clear HO4'
 have HO5' : Hid (OwnD w5 (fun k => V3.heap.size ≤ k ∧ k < w4.heap.size) (.slice a5 p.t.length c5) (evsD p.t)) := HO5.out.under hb
 clear HO5
 have HO5 := HO5'
 clear HO5'
 clear hb
 obtain ⟨V5, hV5⟩ : ∃ V5, (w5.setCell ⟨(w.heap.size + 1 + 1), 6, none⟩ (.slice a6 p.a.length c6)) = V5 := ⟨_, rfl⟩
 have qq6 := HQb4.out.cell (i := 6) rfl
 have qf4 := HQb4.out.free
 have HY6 := HQb4.out
 obtain ⟨Y7, hY7⟩ : ∃ Y7, w5.setCell ⟨(w.heap.size + 1 + 1), 6, none⟩ (.slice a6 p.a.length c6) = Y7 := ⟨_, rfl⟩
 have HY7 : Bk Y7 (w.heap.size + 1 + 1) 33 #[.int .i64 p.n, .slice a1 p.st.r.length c1, .int .i64 p.st.q, .int .i64 p.st.d, .slice a4 p.p.length c4, .slice a5 p.t.length c5, .slice a6 p.a.length c6] := hY7 ▸ HY6.put 6 _
 clear HY6
 have hYV : Y7 = V5 := by rw [← hV5, hY7]
 have HQ5 : Hid (Bk V5 (w.heap.size + 1 + 1) 33 #[.int .i64 p.n, .slice a1 p.st.r.length c1, .int .i64 p.st.q, .int .i64 p.st.d, .slice a4 p.p.length c4, .slice a5 p.t.length c5, .slice a6 p.a.length c6]) := hYV ▸ HY7
 clear HY7 hYV hY7
 have HP5 : Hid (Bk V5 w.heap.size 48 #[.int .i64 p.n, u1, .int .i64 p.st.q, .int .i64 p.st.d, u4, u5, u6]) := by rw [← hV5]; exact (HPb4.out.other 6 _ (by omega))
 have HR5 : Hid (Bk V5 (w.heap.size + 1) 33 #[.int .i64 0, .slice none 0 0, .int .i64 0, .int .i64 0, .slice none 0 0, .slice none 0 0, .slice none 0 0]) := by rw [← hV5]; exact (HRb4.out.other 6 _ (by omega))
 have HT5 : Hid (Turns (fun k => k = (w.heap.size + 1 + 1)) w5 V5) := by rw [← hV5]; exact put1_turns _ _ 6 _
 have hy5 : w5.heap.size ≤ V5.heap.size := HT5.out.size
 have HX5 := hidTPtC (HXb4.out.trans (HT5.out.to_below (fun k e => by omega) (by omega)))
 have HO1' : Hid (OwnD V5 (fun k => V1.heap.size ≤ k ∧ k < w2.heap.size) (.slice a1 p.st.r.length c1) (intsD p.st.r)) := HO1.out.turns HT5.out (fun k e => by omega)
 clear HO1
 have HO1 := HO1'
 clear HO1'
 have HO4' : Hid (OwnD V5 (fun k => V2.heap.size ≤ k ∧ k < w3.heap.size) (.slice a4 p.p.length c4) (pastsD p.p)) := HO4.out.turns HT5.out (fun k e => by omega)
 clear HO4
 have HO4 := HO4'
 clear HO4'
 have HO5' : Hid (OwnD V5 (fun k => V3.heap.size ≤ k ∧ k < w4.heap.size) (.slice a5 p.t.length c5) (evsD p.t)) := HO5.out.turns HT5.out (fun k e => by omega)
 clear HO5
 have HO5 := HO5'
 clear HO5'
 have HO6' : Hid (OwnD V5 (fun k => V4.heap.size ≤ k ∧ k < w5.heap.size) (.slice a6 p.a.length c6) (intsD p.a)) := HO6.out.turns HT5.out (fun k e => by omega)
 clear HO6
 have HO6 := HO6'
 clear HO6'
 clear HPb4 HRb4 HQb4 HXb4 HP4 HR4 HQ4 HX4
 have oo0 := HQ5.out.cell (i := 0) rfl
 have rr0 := HR5.out.cell (i := 0) rfl
 have oo1 := HQ5.out.cell (i := 1) rfl
 have rr1 := HR5.out.cell (i := 1) rfl
 have oo2 := HQ5.out.cell (i := 2) rfl
 have rr2 := HR5.out.cell (i := 2) rfl
 have oo3 := HQ5.out.cell (i := 3) rfl
 have rr3 := HR5.out.cell (i := 3) rfl
 have oo4 := HQ5.out.cell (i := 4) rfl
 have rr4 := HR5.out.cell (i := 4) rfl
 have oo5 := HQ5.out.cell (i := 5) rfl
 have rr5 := HR5.out.cell (i := 5) rfl
 have oo6 := HQ5.out.cell (i := 6) rfl
 have rr6 := HR5.out.cell (i := 6) rfl
 have rf := HR5.out.free
 go_wp2
 clear rf oo0 rr0 oo1 rr1 oo2 rr2 oo3 rr3 oo4 rr4 oo5 rr5 oo6 rr6 qq6 qf4 hV5
 have HY0 := HR5.out
 have HU0 : Turns (fun k => k = (w.heap.size + 1)) V5 V5 := Turns.refl _ _
 obtain ⟨Y1, hY1⟩ : ∃ Y1, V5.setCell ⟨(w.heap.size + 1), 0, none⟩ (.int .i64 p.n) = Y1 := ⟨_, rfl⟩
 have HY1 : Bk Y1 (w.heap.size + 1) 33 #[.int .i64 p.n, .slice none 0 0, .int .i64 0, .int .i64 0, .slice none 0 0, .slice none 0 0, .slice none 0 0] := hY1 ▸ HY0.put 0 _
 have HU1 : Turns (fun k => k = (w.heap.size + 1)) V5 Y1 := HU0.trans (hY1 ▸ put1_turns _ _ 0 _)
 clear HY0 HU0
 obtain ⟨Y2, hY2⟩ : ∃ Y2, Y1.setCell ⟨(w.heap.size + 1), 1, none⟩ (.slice a1 p.st.r.length c1) = Y2 := ⟨_, rfl⟩
 have HY2 : Bk Y2 (w.heap.size + 1) 33 #[.int .i64 p.n, .slice a1 p.st.r.length c1, .int .i64 0, .int .i64 0, .slice none 0 0, .slice none 0 0, .slice none 0 0] := hY2 ▸ HY1.put 1 _
 have HU2 : Turns (fun k => k = (w.heap.size + 1)) V5 Y2 := HU1.trans (hY2 ▸ put1_turns _ _ 1 _)
 clear HY1 HU1
 obtain ⟨Y3, hY3⟩ : ∃ Y3, Y2.setCell ⟨(w.heap.size + 1), 2, none⟩ (.int .i64 p.st.q) = Y3 := ⟨_, rfl⟩
 have HY3 : Bk Y3 (w.heap.size + 1) 33 #[.int .i64 p.n, .slice a1 p.st.r.length c1, .int .i64 p.st.q, .int .i64 0, .slice none 0 0, .slice none 0 0, .slice none 0 0] := hY3 ▸ HY2.put 2 _
 have HU3 : Turns (fun k => k = (w.heap.size + 1)) V5 Y3 := HU2.trans (hY3 ▸ put1_turns _ _ 2 _)
 clear HY2 HU2
 obtain ⟨Y4, hY4⟩ : ∃ Y4, Y3.setCell ⟨(w.heap.size + 1), 3, none⟩ (.int .i64 p.st.d) = Y4 := ⟨_, rfl⟩
 have HY4 : Bk Y4 (w.heap.size + 1) 33 #[.int .i64 p.n, .slice a1 p.st.r.length c1, .int .i64 p.st.q, .int .i64 p.st.d, .slice none 0 0, .slice none 0 0, .slice none 0 0] := hY4 ▸ HY3.put 3 _
 have HU4 : Turns (fun k => k = (w.heap.size + 1)) V5 Y4 := HU3.trans (hY4 ▸ put1_turns _ _ 3 _)
 clear HY3 HU3
 obtain ⟨Y5, hY5⟩ : ∃ Y5, Y4.setCell ⟨(w.heap.size + 1), 4, none⟩ (.slice a4 p.p.length c4) = Y5 := ⟨_, rfl⟩
 have HY5 : Bk Y5 (w.heap.size + 1) 33 #[.int .i64 p.n, .slice a1 p.st.r.length c1, .int .i64 p.st.q, .int .i64 p.st.d, .slice a4 p.p.length c4, .slice none 0 0, .slice none 0 0] := hY5 ▸ HY4.put 4 _
 have HU5 : Turns (fun k => k = (w.heap.size + 1)) V5 Y5 := HU4.trans (hY5 ▸ put1_turns _ _ 4 _)
 clear HY4 HU4
 obtain ⟨Y6, hY6⟩ : ∃ Y6, Y5.setCell ⟨(w.heap.size + 1), 5, none⟩ (.slice a5 p.t.length c5) = Y6 := ⟨_, rfl⟩
 have HY6 : Bk Y6 (w.heap.size + 1) 33 #[.int .i64 p.n, .slice a1 p.st.r.length c1, .int .i64 p.st.q, .int .i64 p.st.d, .slice a4 p.p.length c4, .slice a5 p.t.length c5, .slice none 0 0] := hY6 ▸ HY5.put 5 _
 have HU6 : Turns (fun k => k = (w.heap.size + 1)) V5 Y6 := HU5.trans (hY6 ▸ put1_turns _ _ 5 _)
 clear HY5 HU5
 obtain ⟨Y7, hY7⟩ : ∃ Y7, Y6.setCell ⟨(w.heap.size + 1), 6, none⟩ (.slice a6 p.a.length c6) = Y7 := ⟨_, rfl⟩
 have HY7 : Bk Y7 (w.heap.size + 1) 33 #[.int .i64 p.n, .slice a1 p.st.r.length c1, .int .i64 p.st.q, .int .i64 p.st.d, .slice a4 p.p.length c4, .slice a5 p.t.length c5, .slice a6 p.a.length c6] := hY7 ▸ HY6.put 6 _
 have HU7 : Turns (fun k => k = (w.heap.size + 1)) V5 Y7 := HU6.trans (hY7 ▸ put1_turns _ _ 6 _)
 clear HY6 HU6
 rw [hY1, hY2, hY3, hY4, hY5, hY6, hY7]
 have hR := HY7
 have hT := HU7
 have t0 := hR.cell (i := 0) rfl
 have t1 := hR.cell (i := 1) rfl
 have t2 := hR.cell (i := 2) rfl
 have t3 := hR.cell (i := 3) rfl
 have t4 := hR.cell (i := 4) rfl
 have t5 := hR.cell (i := 5) rfl
 have t6 := hR.cell (i := 6) rfl
 have hsz := hT.size
 refine bodyPost_ret (v := .agg #[.int .i64 p.n, .slice a1 p.st.r.length c1, .int .i64 p.st.q, .int .i64 p.st.d, .slice a4 p.p.length c4, .slice a5 p.t.length c5, .slice a6 p.a.length c6]) (by simp [results, Tryz.results18, go_sem, t0, t1, t2, t3, t4, t5, t6]) rfl
  ⟨_, rfl, HX5.out.trans (hT.to_below (fun k e => by omega) (by omega)), _, _, _, _, _, _, _, _, rfl, HO1.out.turns hT (fun k e => by omega), HO4.out.turns hT (fun k e => by omega), HO5.out.turns hT (fun k e => by omega), HO6.out.turns hT (fun k e => by omega), fun k e => ⟨⟨by omega, by omega⟩, by omega, by omega, by omega⟩, fun k e => ⟨⟨by omega, by omega⟩, by omega, by omega⟩, fun k e => ⟨⟨by omega, by omega⟩, by omega⟩, fun k e => ⟨by omega, by omega⟩⟩
end Go.Proofs.YtnccenbkpocjgaaGreat

/- Marks, cell by cell. -/
namespace Go.Proofs.YtnccenbkpocjgaaGreat
open Go.RowKit
def sumC (f : Nat → Dat) (j : Nat) : Nat := sumL (fun i => (f i).cnt) j
def mkD (f : Nat → Dat) (z : Int) (m : Nat) : Nat → Dat := fun j => if j < m then (f j).mark (z + (sumC f j : Int)) else f j
theorem upd_mkD (f : Nat → Dat) (z : Int) (m : Nat) : upd (mkD f z m) m ((f m).mark (z + (sumC f m : Int))) = mkD f z (m + 1) := by
 funext j
 simp only [upd, mkD]
 by_cases e : j = m
 ·subst e; rw [if_pos rfl, if_pos (by omega)]
 ·rw [if_neg e]
  by_cases e2 : j < m
  ·rw [if_pos e2, if_pos (by omega)]
  ·rw [if_neg e2, if_neg (by omega)]
theorem OwnD.mk0 {F : Nat → Prop} {w : World} {x : Value} {c n : Nat} {f : Nat → Dat} (z : Int) (h : OwnD w F x (.row c n f)) : OwnD w F x (.row c n (mkD f z (0 * c))) :=
 h.congr (fun j _ => by simp [mkD])
theorem OwnD.mkAll {F : Nat → Prop} {w : World} {x : Value} {c n : Nat} {f : Nat → Dat} {z : Int} (h : OwnD w F x (.row c n (mkD f z (n * c)))) : OwnD w F x ((Dat.row c n f).mark z) :=
 OwnD.congr (f' := fun j => (f j).mark (z + (sumL (fun i => (f i).cnt) j : Int))) h (fun j hj => by simp only [mkD]; rw [if_pos hj]; rfl)
theorem OwnD.mk_val {F : Nat → Prop} {w : World} {g n cap c m : Nat} {f : Nat → Dat} {z : Int} (h : OwnD w F (.slice (some ⟨g, 0, none⟩) n cap) (.row c n (mkD f z m))) (hm : m < n * c) {u v : Value} (hv : f m = .val v) (hu : u = mark1 v (z + (sumC f m : Int))) :
  OwnD (w.setCell ⟨g, m, none⟩ u) F (.slice (some ⟨g, 0, none⟩) n cap) (.row c n (mkD f z (m + 1))) := by
 have := h.put_val hm u
 rw [← upd_mkD, hv]
 rw [hu] at this ⊢
 exact this
theorem OwnD.mk_row {F : Nat → Prop} {w : World} {g n cap c m : Nat} {f : Nat → Dat} {z : Int} (h : OwnD w F (.slice (some ⟨g, 0, none⟩) n cap) (.row c n (mkD f z m))) (hm : m < n * c) :
  ∃ u K, w.cell? ⟨g, m, none⟩ = some u ∧ OwnD w K u (f m) ∧ (∀ k, K k → F k) ∧ ∀ w', OwnD w' K u ((f m).mark (z + (sumC f m : Int))) → Turns K w w' → OwnD w' F (.slice (some ⟨g, 0, none⟩) n cap) (.row c n (mkD f z (m + 1))) := by
 obtain ⟨u, K, h1, _, h3, h4, h5⟩ := h.step hm
 refine ⟨u, K, h1, ?_, fun k hk => (h4 k hk).1, fun w' hw ht => ?_⟩
 ·have e : mkD f z m m = f m := by simp [mkD]
  rw [e] at h3; exact h3
 ·have := h5 w' _ hw ht
  rw [upd_mkD] at this; exact this
theorem OwnD.marked {F : Nat → Prop} {w : World} {g n cap c : Nat} {f : Nat → Dat} {z : Int} (h : OwnD w F (.slice (some ⟨g, 0, none⟩) n cap) ((Dat.row c n f).mark z)) {j : Nat} (hj : j < n * c) :
  ∃ u K, w.cell? ⟨g, j, none⟩ = some u ∧ OwnD w K u ((f j).mark (z + (sumC f j : Int))) := by
 obtain ⟨u, K, h1, _, h3, _⟩ := OwnD.step (f := fun j => (f j).mark (z + (sumL (fun i => (f i).cnt) j : Int))) h hj
 exact ⟨u, K, h1, h3⟩
theorem OwnD.marked_val {F : Nat → Prop} {w : World} {g n cap c : Nat} {f : Nat → Dat} {z : Int} (h : OwnD w F (.slice (some ⟨g, 0, none⟩) n cap) ((Dat.row c n f).mark z)) {j : Nat} (hj : j < n * c) {v u : Value} (hv : f j = .val v) (hu : u = mark1 v (z + (sumC f j : Int))) :
  w.cell? ⟨g, j, none⟩ = some u := by
 obtain ⟨u', K, h1, h2⟩ := h.marked hj
 rw [hv] at h2
 rw [h1, h2.isD.val_eq, hu]
theorem OwnD.mslice {F : Nat → Prop} {w : World} {x : Value} {n c : Nat} {f : Nat → Dat} {z : Int} (h : OwnD w F x ((Dat.row c n f).mark z)) : ∃ a cap, x = .slice a n cap ∧ n ≤ maxLen ∧ (n = 0 ∨ ∃ g, a = some ⟨g, 0, none⟩) := by
 obtain ⟨a, cap, e, h1, h2, h⟩ := OwnD.parts (f := fun j => (f j).mark (z + (sumL (fun i => (f i).cnt) j : Int))) h
 exact ⟨a, cap, e, Nat.le_trans h1 h2, h.imp id (fun ⟨g, e, _⟩ => ⟨g, e⟩)⟩
theorem sumC_le {c n : Nat} {f : Nat → Dat} {j : Nat} (h : j ≤ n * c) : sumC f j ≤ (Dat.row c n f).cnt := sumL_mono _ h
theorem sumC_succ (f : Nat → Dat) (j : Nat) : sumC f (j + 1) = sumC f j + (f j).cnt := rfl
end Go.Proofs.YtnccenbkpocjgaaGreat

