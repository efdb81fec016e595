/- TPtC, OpenS, MOpen, SOpen, TPtO -/
import Derived.Test.YtglmdocokfnmcaaExactSavedG25
import Derived.Test.YtglmdocokfnmcaaExactSavedG26
import Derived.Test.YtglmdocokfnmcaaExactSavedG18
import Derived.Test.YtglmdocokfnmcaaExactSavedG01
import Derived.SizedLaws
import Derived.Test.YtglmdocokfnmcaaExactSavedG06
/- toPart: a copy of its own. -/
namespace Go.Proofs.Ytglmdocokfnmcaa
open Go.RowKit
def PartF (F : Nat → Prop) (w : World) (y : Value) (p : Pa) : Prop :=
  ∃ (A1 A4 A5 A6 : Nat → Prop) (u1 u4 u5 u6 : Value), y = .agg #[.int .i64 p.n, u1, .int .i64 p.st.q, .int .i64 p.st.d, u4, u5, u6] ∧ OwnD w A1 u1 (intsD p.st.r) ∧ OwnD w A4 u4 (pastsD p.p) ∧ OwnD w A5 u5 (evsD p.t) ∧ OwnD w A6 u6 (intsD p.a) ∧ (∀ k, A1 k → F k ∧ ¬ A4 k ∧ ¬ A5 k ∧ ¬ A6 k) ∧ (∀ k, A4 k → F k ∧ ¬ A5 k ∧ ¬ A6 k) ∧ (∀ k, A5 k → F k ∧ ¬ A6 k) ∧ (∀ k, A6 k → F k)
theorem PartF.is {F : Nat → Prop} {w : World} {y : Value} {p : Pa} (h : PartF F w y p) : IsPart w y p := by
  obtain ⟨A1, A4, A5, A6, u1, u4, u5, u6, rfl, h1, h4, h5, h6, d1, d4, d5, d6⟩ := h
  exact ⟨u1, u4, u5, u6, rfl, h1.isD, h4.isD, h5.isD, h6.isD⟩
theorem PartF.turns {F S : Nat → Prop} {w w' : World} {y : Value} {p : Pa} (h : PartF F w y p) (ht : Turns S w w') (hS : ∀ k, F k → ¬ S k) : PartF F w' y p := by
  obtain ⟨A1, A4, A5, A6, u1, u4, u5, u6, rfl, h1, h4, h5, h6, d1, d4, d5, d6⟩ := h
  exact ⟨A1, A4, A5, A6, u1, u4, u5, u6, rfl, h1.turns ht (fun k hk => hS k (d1 k hk).1), h4.turns ht (fun k hk => hS k (d4 k hk).1), h5.turns ht (fun k hk => hS k (d5 k hk).1), h6.turns ht (fun k hk => hS k (d6 k hk)), d1, d4, d5, d6⟩
theorem PartF.under {F : Nat → Prop} {w w' : World} {y : Value} {p : Pa} (h : PartF F w y p) (hb : Below w.heap.size w w') : PartF F w' y p :=
  h.turns (S := fun _ => False) (Turns.of_below hb) (fun _ _ => id)
theorem PartF.mono {F F' : Nat → Prop} {w : World} {y : Value} {p : Pa} (h : PartF F w y p) (hF : ∀ k, F k → F' k) : PartF F' w y p := by
  obtain ⟨A1, A4, A5, A6, u1, u4, u5, u6, rfl, h1, h4, h5, h6, d1, d4, d5, d6⟩ := h
  exact ⟨A1, A4, A5, A6, u1, u4, u5, u6, rfl, h1, h4, h5, h6, fun k hk => ⟨hF k (d1 k hk).1, (d1 k hk).2⟩, fun k hk => ⟨hF k (d4 k hk).1, (d4 k hk).2⟩, fun k hk => ⟨hF k (d5 k hk).1, (d5 k hk).2⟩, fun k hk => hF k (d6 k hk)⟩
theorem PartF.form {F : Nat → Prop} {w : World} {y : Value} {p : Pa} (h : PartF F w y p) : ∃ a1 c1 a4 c4 a5 c5 a6 c6, y = .agg #[.int .i64 p.n, .slice a1 p.st.r.length c1, .int .i64 p.st.q, .int .i64 p.st.d, .slice a4 p.p.length c4, .slice a5 p.t.length c5, .slice a6 p.a.length c6] := by
  obtain ⟨A1, A4, A5, A6, u1, u4, u5, u6, rfl, h1, h4, h5, h6, d1, d4, d5, d6⟩ := h
  obtain ⟨a1, c1, rfl, _⟩ := OwnD.parts (c := 1) (n := p.st.r.length) h1
  obtain ⟨a4, c4, rfl, _⟩ := OwnD.parts (c := 12) (n := p.p.length) h4
  obtain ⟨a5, c5, rfl, _⟩ := OwnD.parts (c := 7) (n := p.t.length) h5
  obtain ⟨a6, c6, rfl, _⟩ := OwnD.parts (c := 1) (n := p.a.length) h6
  exact ⟨a1, c1, a4, c4, a5, c5, a6, c6, rfl⟩
set_option maxHeartbeats 8000000 in
theorem toPart_any (x : Value) (p : Pa) (w : World) (hw : p.wt ≤ 1048576) (h : IsPart w x p) :
    Calls Try.prog 10 #[x] w fun e w' => ∃ y, e = .returned y ∧ Below w.heap.size w w' ∧ PartF (fun k => w.heap.size ≤ k ∧ k < w'.heap.size) w' y p := by
  obtain ⟨u1, u4, u5, u6, rfl, h1, h4, h5, h6⟩ := h
  have HS : Hid (p.wt ≤ 1048576) := hw
  have H1 : Hid (IsD w u1 (intsD p.st.r)) := h1
  have H4 : Hid (IsD w u4 (pastsD p.p)) := h4
  have H5 : Hid (IsD w u5 (evsD p.t)) := h5
  have H6 : Hid (IsD w u6 (intsD p.a)) := h6
  clear hw h1 h4 h5 h6
  obtain ⟨V0, hV0⟩ : ∃ V0, ((w.alloc (.cells #[.int .i64 p.n, u1, .int .i64 p.st.q, .int .i64 p.st.d, u4, u5, u6] 28)).alloc (.cells #[.int .i64 0, .slice none 0 0, .int .i64 0, .int .i64 0, .slice none 0 0, .slice none 0 0, .slice none 0 0] 35)).alloc (.cells #[.int .i64 0, .slice none 0 0, .int .i64 0, .int .i64 0, .slice none 0 0, .slice none 0 0, .slice none 0 0] 35) = V0 := ⟨_, rfl⟩
  have HX0 : Hid (Below w.heap.size w V0) := by rw [← hV0]; exact (((Below.refl _ w).alloc (Nat.le_refl _) _).alloc (by simp) _).alloc (by simp; omega) _
  have hs0 : w.heap.size + 3 ≤ V0.heap.size := by rw [← hV0]; simp
  have HP0 : Hid (Bk V0 w.heap.size 28 #[.int .i64 p.n, u1, .int .i64 p.st.q, .int .i64 p.st.d, u4, u5, u6]) := by rw [← hV0]; exact ((Bk.new w _ _).alloc _).alloc _
  have HR0 : Hid (Bk V0 (w.heap.size + 1) 35 #[.int .i64 0, .slice none 0 0, .int .i64 0, .int .i64 0, .slice none 0 0, .slice none 0 0, .slice none 0 0]) := by rw [← hV0]; exact (Bk.newAt (by simp) _ _).alloc _
  have HQ0 : Hid (Bk V0 (w.heap.size + 1 + 1) 35 #[.int .i64 0, .slice none 0 0, .int .i64 0, .int .i64 0, .slice none 0 0, .slice none 0 0, .slice none 0 0]) := by rw [← hV0]; exact Bk.newAt (by simp) _ _
  have HW0 : Hid (((w.alloc (.cells #[.int .i64 p.n, u1, .int .i64 p.st.q, .int .i64 p.st.d, u4, u5, u6] 28)).alloc (.cells #[.int .i64 0, .slice none 0 0, .int .i64 0, .int .i64 0, .slice none 0 0, .slice none 0 0, .slice none 0 0] 35)).alloc (.cells #[.int .i64 0, .slice none 0 0, .int .i64 0, .int .i64 0, .slice none 0 0, .slice none 0 0, .slice none 0 0] 35) = V0) := hV0
  clear hV0
  go_enter Try.func10, Try.ntmps10
  have pp0 := HP0.out.cell (i := 0) rfl
  have qq0 := HQ0.out.cell (i := 0) rfl
  have qf0 := HQ0.out.free
  have hV0 := HW0.out
  obtain ⟨V1, hV1⟩ : ∃ V1, (V0.setCell ⟨(w.heap.size + 1 + 1), 0, none⟩ (.int .i64 p.n)) = V1 := ⟨_, rfl⟩
  have HY0 := HQ0.out
  obtain ⟨Y1, hY1⟩ : ∃ Y1, V0.setCell ⟨(w.heap.size + 1 + 1), 0, none⟩ (.int .i64 p.n) = Y1 := ⟨_, rfl⟩
  have HY1 : Bk Y1 (w.heap.size + 1 + 1) 35 #[.int .i64 p.n, .slice none 0 0, .int .i64 0, .int .i64 0, .slice none 0 0, .slice none 0 0, .slice none 0 0] := hY1 ▸ HY0.put 0 _
  clear HY0
  have hYV : Y1 = V1 := by rw [← hV1, hY1]
  have HQ1 : Hid (Bk V1 (w.heap.size + 1 + 1) 35 #[.int .i64 p.n, .slice none 0 0, .int .i64 0, .int .i64 0, .slice none 0 0, .slice none 0 0, .slice none 0 0]) := hYV ▸ HY1
  clear HY1 hYV hY1
  have HP1 : Hid (Bk V1 w.heap.size 28 #[.int .i64 p.n, u1, .int .i64 p.st.q, .int .i64 p.st.d, u4, u5, u6]) := by rw [← hV1]; exact (HP0.out.other 0 _ (by omega))
  have HR1 : Hid (Bk V1 (w.heap.size + 1) 35 #[.int .i64 0, .slice none 0 0, .int .i64 0, .int .i64 0, .slice none 0 0, .slice none 0 0, .slice none 0 0]) := by rw [← hV1]; exact (HR0.out.other 0 _ (by omega))
  have HT1 : Hid (Turns (fun k => k = (w.heap.size + 1 + 1)) V0 V1) := by rw [← hV1]; exact put1_turns _ _ 0 _
  have hy1 : V0.heap.size ≤ V1.heap.size := HT1.out.size
  have HX1 : Hid (Below w.heap.size w V1) := HX0.out.trans (HT1.out.to_below (fun k e => by omega) (by omega))
  clear HP0 HR0 HQ0 HX0
  have p1 := HP1.out.cell (i := 1) rfl
  have p2 := HP1.out.cell (i := 2) rfl
  have p3 := HP1.out.cell (i := 3) rfl
  go_wp2_with fail
  clear pp0 qq0 qf0 hV0 hV1 p1 p2 p3
  refine (toState_any _ p.st _ (by have := HS.out; unfold Pa.wt at this; simp only [evs_wt, ints_wt] at this; omega) ⟨_, rfl, (H1.out.under HX1.out).isI⟩).mono ?_
  rintro e w2 ⟨y1, rfl, hb, vr1, rfl, ho1⟩
  have HO1 : Hid (OwnD w2 (fun k => V1.heap.size ≤ k ∧ k < w2.heap.size) vr1 (intsD p.st.r)) := ho1.own
  obtain ⟨_, a1, c1, rfl, _⟩ := ho1
  have hz1 : V1.heap.size ≤ w2.heap.size := hb.size
  have HXb1 : Hid (Below w.heap.size w w2) := HX1.out.trans (hb.mono (by omega))
  have HPb1 : Hid (Bk w2 w.heap.size 28 #[.int .i64 p.n, u1, .int .i64 p.st.q, .int .i64 p.st.d, u4, u5, u6]) := HP1.out.below hb
  have HRb1 : Hid (Bk w2 (w.heap.size + 1) 35 #[.int .i64 0, .slice none 0 0, .int .i64 0, .int .i64 0, .slice none 0 0, .slice none 0 0, .slice none 0 0]) := HR1.out.below hb
  have HQb1 : Hid (Bk w2 (w.heap.size + 1 + 1) 35 #[.int .i64 p.n, .slice none 0 0, .int .i64 0, .int .i64 0, .slice none 0 0, .slice none 0 0, .slice none 0 0]) := HQ1.out.below hb
  clear hb
  obtain ⟨V2, hV2⟩ : ∃ V2, (((w2.setCell ⟨(w.heap.size + 1 + 1), 1, none⟩ (.slice a1 p.st.r.length c1)).setCell ⟨(w.heap.size + 1 + 1), 2, none⟩ (.int .i64 p.st.q)).setCell ⟨(w.heap.size + 1 + 1), 3, none⟩ (.int .i64 p.st.d)) = V2 := ⟨_, rfl⟩
  have qq1 := HQb1.out.cell (i := 1) rfl
  have qq2 := HQb1.out.cell (i := 2) rfl
  have qq3 := HQb1.out.cell (i := 3) rfl
  have qf1 := HQb1.out.free
  have HY1 := HQb1.out
  obtain ⟨Y2, hY2⟩ : ∃ Y2, w2.setCell ⟨(w.heap.size + 1 + 1), 1, none⟩ (.slice a1 p.st.r.length c1) = Y2 := ⟨_, rfl⟩
  have HY2 : Bk Y2 (w.heap.size + 1 + 1) 35 #[.int .i64 p.n, .slice a1 p.st.r.length c1, .int .i64 0, .int .i64 0, .slice none 0 0, .slice none 0 0, .slice none 0 0] := hY2 ▸ HY1.put 1 _
  clear HY1
  obtain ⟨Y3, hY3⟩ : ∃ Y3, Y2.setCell ⟨(w.heap.size + 1 + 1), 2, none⟩ (.int .i64 p.st.q) = Y3 := ⟨_, rfl⟩
  have HY3 : Bk Y3 (w.heap.size + 1 + 1) 35 #[.int .i64 p.n, .slice a1 p.st.r.length c1, .int .i64 p.st.q, .int .i64 0, .slice none 0 0, .slice none 0 0, .slice none 0 0] := hY3 ▸ HY2.put 2 _
  clear HY2
  obtain ⟨Y4, hY4⟩ : ∃ Y4, Y3.setCell ⟨(w.heap.size + 1 + 1), 3, none⟩ (.int .i64 p.st.d) = Y4 := ⟨_, rfl⟩
  have HY4 : Bk Y4 (w.heap.size + 1 + 1) 35 #[.int .i64 p.n, .slice a1 p.st.r.length c1, .int .i64 p.st.q, .int .i64 p.st.d, .slice none 0 0, .slice none 0 0, .slice none 0 0] := hY4 ▸ HY3.put 3 _
  clear HY3
  have hYV : Y4 = V2 := by rw [← hV2, hY2, hY3, hY4]
  have HQ2 : Hid (Bk V2 (w.heap.size + 1 + 1) 35 #[.int .i64 p.n, .slice a1 p.st.r.length c1, .int .i64 p.st.q, .int .i64 p.st.d, .slice none 0 0, .slice none 0 0, .slice none 0 0]) := hYV ▸ HY4
  clear HY4 hYV hY4 hY3 hY2
  have HP2 : Hid (Bk V2 w.heap.size 28 #[.int .i64 p.n, u1, .int .i64 p.st.q, .int .i64 p.st.d, u4, u5, u6]) := by rw [← hV2]; exact (((HPb1.out.other 1 _ (by omega)).other 2 _ (by omega)).other 3 _ (by omega))
  have HR2 : Hid (Bk V2 (w.heap.size + 1) 35 #[.int .i64 0, .slice none 0 0, .int .i64 0, .int .i64 0, .slice none 0 0, .slice none 0 0, .slice none 0 0]) := by rw [← hV2]; exact (((HRb1.out.other 1 _ (by omega)).other 2 _ (by omega)).other 3 _ (by omega))
  have HT2 : Hid (Turns (fun k => k = (w.heap.size + 1 + 1)) w2 V2) := by rw [← hV2]; exact ((put1_turns _ _ 1 _).trans (put1_turns _ _ 2 _)).trans (put1_turns _ _ 3 _)
  have hy2 : w2.heap.size ≤ V2.heap.size := HT2.out.size
  have HX2 : Hid (Below w.heap.size w V2) := HXb1.out.trans (HT2.out.to_below (fun k e => by omega) (by omega))
  have HO1' : Hid (OwnD V2 (fun k => V1.heap.size ≤ k ∧ k < w2.heap.size) (.slice a1 p.st.r.length c1) (intsD p.st.r)) := HO1.out.turns HT2.out (fun k e => by omega)
  clear HO1
  have HO1 := HO1'
  clear HO1'
  clear HPb1 HRb1 HQb1 HXb1 HP1 HR1 HQ1 HX1
  have p4 := HP2.out.cell (i := 4) rfl
  go_wp2_with fail
  clear qq1 qq2 qq3 qf1 hV2 p4
  refine (to_pasts _ p.p _ (by have := HS.out; unfold Pa.wt at this; simp only [evs_wt, ints_wt] at this; omega) (H4.out.under HX2.out)).mono ?_
  rintro e w3 ⟨y4, rfl, hb, ho4⟩
  have HO4 : Hid (OwnD w3 (fun k => V2.heap.size ≤ k ∧ k < w3.heap.size) y4 (pastsD p.p)) := ho4
  obtain ⟨a4, c4, rfl, _⟩ := OwnD.parts (c := 12) (n := p.p.length) ho4
  clear ho4
  have hz2 : V2.heap.size ≤ w3.heap.size := hb.size
  have HXb2 : Hid (Below w.heap.size w w3) := HX2.out.trans (hb.mono (by omega))
  have HPb2 : Hid (Bk w3 w.heap.size 28 #[.int .i64 p.n, u1, .int .i64 p.st.q, .int .i64 p.st.d, u4, u5, u6]) := HP2.out.below hb
  have HRb2 : Hid (Bk w3 (w.heap.size + 1) 35 #[.int .i64 0, .slice none 0 0, .int .i64 0, .int .i64 0, .slice none 0 0, .slice none 0 0, .slice none 0 0]) := HR2.out.below hb
  have HQb2 : Hid (Bk w3 (w.heap.size + 1 + 1) 35 #[.int .i64 p.n, .slice a1 p.st.r.length c1, .int .i64 p.st.q, .int .i64 p.st.d, .slice none 0 0, .slice none 0 0, .slice none 0 0]) := HQ2.out.below hb
  have HO1' : Hid (OwnD w3 (fun k => V1.heap.size ≤ k ∧ k < w2.heap.size) (.slice a1 p.st.r.length c1) (intsD p.st.r)) := HO1.out.under hb
  clear HO1
  have HO1 := HO1'
  clear HO1'
  clear hb
  obtain ⟨V3, hV3⟩ : ∃ V3, (w3.setCell ⟨(w.heap.size + 1 + 1), 4, none⟩ (.slice a4 p.p.length c4)) = V3 := ⟨_, rfl⟩
  have qq4 := HQb2.out.cell (i := 4) rfl
  have qf2 := HQb2.out.free
  have HY4 := HQb2.out
  obtain ⟨Y5, hY5⟩ : ∃ Y5, w3.setCell ⟨(w.heap.size + 1 + 1), 4, none⟩ (.slice a4 p.p.length c4) = Y5 := ⟨_, rfl⟩
  have HY5 : Bk Y5 (w.heap.size + 1 + 1) 35 #[.int .i64 p.n, .slice a1 p.st.r.length c1, .int .i64 p.st.q, .int .i64 p.st.d, .slice a4 p.p.length c4, .slice none 0 0, .slice none 0 0] := hY5 ▸ HY4.put 4 _
  clear HY4
  have hYV : Y5 = V3 := by rw [← hV3, hY5]
  have HQ3 : Hid (Bk V3 (w.heap.size + 1 + 1) 35 #[.int .i64 p.n, .slice a1 p.st.r.length c1, .int .i64 p.st.q, .int .i64 p.st.d, .slice a4 p.p.length c4, .slice none 0 0, .slice none 0 0]) := hYV ▸ HY5
  clear HY5 hYV hY5
  have HP3 : Hid (Bk V3 w.heap.size 28 #[.int .i64 p.n, u1, .int .i64 p.st.q, .int .i64 p.st.d, u4, u5, u6]) := by rw [← hV3]; exact (HPb2.out.other 4 _ (by omega))
  have HR3 : Hid (Bk V3 (w.heap.size + 1) 35 #[.int .i64 0, .slice none 0 0, .int .i64 0, .int .i64 0, .slice none 0 0, .slice none 0 0, .slice none 0 0]) := by rw [← hV3]; exact (HRb2.out.other 4 _ (by omega))
  have HT3 : Hid (Turns (fun k => k = (w.heap.size + 1 + 1)) w3 V3) := by rw [← hV3]; exact put1_turns _ _ 4 _
  have hy3 : w3.heap.size ≤ V3.heap.size := HT3.out.size
  have HX3 : Hid (Below w.heap.size w V3) := HXb2.out.trans (HT3.out.to_below (fun k e => by omega) (by omega))
  have HO1' : Hid (OwnD V3 (fun k => V1.heap.size ≤ k ∧ k < w2.heap.size) (.slice a1 p.st.r.length c1) (intsD p.st.r)) := HO1.out.turns HT3.out (fun k e => by omega)
  clear HO1
  have HO1 := HO1'
  clear HO1'
  have HO4' : Hid (OwnD V3 (fun k => V2.heap.size ≤ k ∧ k < w3.heap.size) (.slice a4 p.p.length c4) (pastsD p.p)) := HO4.out.turns HT3.out (fun k e => by omega)
  clear HO4
  have HO4 := HO4'
  clear HO4'
  clear HPb2 HRb2 HQb2 HXb2 HP2 HR2 HQ2 HX2
  have p5 := HP3.out.cell (i := 5) rfl
  go_wp2_with fail
  clear qq4 qf2 hV3 p5
  refine (to_evs _ p.t _ (by have := HS.out; unfold Pa.wt at this; simp only [evs_wt, ints_wt] at this; omega) (H5.out.under HX3.out)).mono ?_
  rintro e w4 ⟨y5, rfl, hb, ho5⟩
  have HO5 : Hid (OwnD w4 (fun k => V3.heap.size ≤ k ∧ k < w4.heap.size) y5 (evsD p.t)) := ho5
  obtain ⟨a5, c5, rfl, _⟩ := OwnD.parts (c := 7) (n := p.t.length) ho5
  clear ho5
  have hz3 : V3.heap.size ≤ w4.heap.size := hb.size
  have HXb3 : Hid (Below w.heap.size w w4) := HX3.out.trans (hb.mono (by omega))
  have HPb3 : Hid (Bk w4 w.heap.size 28 #[.int .i64 p.n, u1, .int .i64 p.st.q, .int .i64 p.st.d, u4, u5, u6]) := HP3.out.below hb
  have HRb3 : Hid (Bk w4 (w.heap.size + 1) 35 #[.int .i64 0, .slice none 0 0, .int .i64 0, .int .i64 0, .slice none 0 0, .slice none 0 0, .slice none 0 0]) := HR3.out.below hb
  have HQb3 : Hid (Bk w4 (w.heap.size + 1 + 1) 35 #[.int .i64 p.n, .slice a1 p.st.r.length c1, .int .i64 p.st.q, .int .i64 p.st.d, .slice a4 p.p.length c4, .slice none 0 0, .slice none 0 0]) := HQ3.out.below hb
  have HO1' : Hid (OwnD w4 (fun k => V1.heap.size ≤ k ∧ k < w2.heap.size) (.slice a1 p.st.r.length c1) (intsD p.st.r)) := HO1.out.under hb
  clear HO1
  have HO1 := HO1'
  clear HO1'
  have HO4' : Hid (OwnD w4 (fun k => V2.heap.size ≤ k ∧ k < w3.heap.size) (.slice a4 p.p.length c4) (pastsD p.p)) := HO4.out.under hb
  clear HO4
  have HO4 := HO4'
  clear HO4'
  clear hb
  obtain ⟨V4, hV4⟩ : ∃ V4, (w4.setCell ⟨(w.heap.size + 1 + 1), 5, none⟩ (.slice a5 p.t.length c5)) = V4 := ⟨_, rfl⟩
  have qq5 := HQb3.out.cell (i := 5) rfl
  have qf3 := HQb3.out.free
  have HY5 := HQb3.out
  obtain ⟨Y6, hY6⟩ : ∃ Y6, w4.setCell ⟨(w.heap.size + 1 + 1), 5, none⟩ (.slice a5 p.t.length c5) = Y6 := ⟨_, rfl⟩
  have HY6 : Bk Y6 (w.heap.size + 1 + 1) 35 #[.int .i64 p.n, .slice a1 p.st.r.length c1, .int .i64 p.st.q, .int .i64 p.st.d, .slice a4 p.p.length c4, .slice a5 p.t.length c5, .slice none 0 0] := hY6 ▸ HY5.put 5 _
  clear HY5
  have hYV : Y6 = V4 := by rw [← hV4, hY6]
  have HQ4 : Hid (Bk V4 (w.heap.size + 1 + 1) 35 #[.int .i64 p.n, .slice a1 p.st.r.length c1, .int .i64 p.st.q, .int .i64 p.st.d, .slice a4 p.p.length c4, .slice a5 p.t.length c5, .slice none 0 0]) := hYV ▸ HY6
  clear HY6 hYV hY6
  have HP4 : Hid (Bk V4 w.heap.size 28 #[.int .i64 p.n, u1, .int .i64 p.st.q, .int .i64 p.st.d, u4, u5, u6]) := by rw [← hV4]; exact (HPb3.out.other 5 _ (by omega))
  have HR4 : Hid (Bk V4 (w.heap.size + 1) 35 #[.int .i64 0, .slice none 0 0, .int .i64 0, .int .i64 0, .slice none 0 0, .slice none 0 0, .slice none 0 0]) := by rw [← hV4]; exact (HRb3.out.other 5 _ (by omega))
  have HT4 : Hid (Turns (fun k => k = (w.heap.size + 1 + 1)) w4 V4) := by rw [← hV4]; exact put1_turns _ _ 5 _
  have hy4 : w4.heap.size ≤ V4.heap.size := HT4.out.size
  have HX4 : Hid (Below w.heap.size w V4) := HXb3.out.trans (HT4.out.to_below (fun k e => by omega) (by omega))
  have HO1' : Hid (OwnD V4 (fun k => V1.heap.size ≤ k ∧ k < w2.heap.size) (.slice a1 p.st.r.length c1) (intsD p.st.r)) := HO1.out.turns HT4.out (fun k e => by omega)
  clear HO1
  have HO1 := HO1'
  clear HO1'
  have HO4' : Hid (OwnD V4 (fun k => V2.heap.size ≤ k ∧ k < w3.heap.size) (.slice a4 p.p.length c4) (pastsD p.p)) := HO4.out.turns HT4.out (fun k e => by omega)
  clear HO4
  have HO4 := HO4'
  clear HO4'
  have HO5' : Hid (OwnD V4 (fun k => V3.heap.size ≤ k ∧ k < w4.heap.size) (.slice a5 p.t.length c5) (evsD p.t)) := HO5.out.turns HT4.out (fun k e => by omega)
  clear HO5
  have HO5 := HO5'
  clear HO5'
  clear HPb3 HRb3 HQb3 HXb3 HP3 HR3 HQ3 HX3
  have p6 := HP4.out.cell (i := 6) rfl
  go_wp2_with fail
  clear qq5 qf3 hV4 p6
  refine (to_ints _ p.a _ (by have := HS.out; unfold Pa.wt at this; simp only [evs_wt, ints_wt] at this; omega) (H6.out.under HX4.out)).mono ?_
  rintro e w5 ⟨y6, rfl, hb, ho6⟩
  have HO6 : Hid (OwnD w5 (fun k => V4.heap.size ≤ k ∧ k < w5.heap.size) y6 (intsD p.a)) := ho6
  obtain ⟨a6, c6, rfl, _⟩ := OwnD.parts (c := 1) (n := p.a.length) ho6
  clear ho6
  have hz4 : V4.heap.size ≤ w5.heap.size := hb.size
  have HXb4 : Hid (Below w.heap.size w w5) := HX4.out.trans (hb.mono (by omega))
  have HPb4 : Hid (Bk w5 w.heap.size 28 #[.int .i64 p.n, u1, .int .i64 p.st.q, .int .i64 p.st.d, u4, u5, u6]) := HP4.out.below hb
  have HRb4 : Hid (Bk w5 (w.heap.size + 1) 35 #[.int .i64 0, .slice none 0 0, .int .i64 0, .int .i64 0, .slice none 0 0, .slice none 0 0, .slice none 0 0]) := HR4.out.below hb
  have HQb4 : Hid (Bk w5 (w.heap.size + 1 + 1) 35 #[.int .i64 p.n, .slice a1 p.st.r.length c1, .int .i64 p.st.q, .int .i64 p.st.d, .slice a4 p.p.length c4, .slice a5 p.t.length c5, .slice none 0 0]) := HQ4.out.below hb
  have HO1' : Hid (OwnD w5 (fun k => V1.heap.size ≤ k ∧ k < w2.heap.size) (.slice a1 p.st.r.length c1) (intsD p.st.r)) := HO1.out.under hb
  clear HO1
  have HO1 := HO1'
  clear HO1'
  have HO4' : Hid (OwnD w5 (fun k => V2.heap.size ≤ k ∧ k < w3.heap.size) (.slice a4 p.p.length c4) (pastsD p.p)) := HO4.out.under hb
  clear HO4
  have HO4 := HO4'
  clear HO4'
  have HO5' : Hid (OwnD w5 (fun k => V3.heap.size ≤ k ∧ k < w4.heap.size) (.slice a5 p.t.length c5) (evsD p.t)) := HO5.out.under hb
  clear HO5
  have HO5 := HO5'
  clear HO5'
  clear hb
  obtain ⟨V5, hV5⟩ : ∃ V5, (w5.setCell ⟨(w.heap.size + 1 + 1), 6, none⟩ (.slice a6 p.a.length c6)) = V5 := ⟨_, rfl⟩
  have qq6 := HQb4.out.cell (i := 6) rfl
  have qf4 := HQb4.out.free
  have HY6 := HQb4.out
  obtain ⟨Y7, hY7⟩ : ∃ Y7, w5.setCell ⟨(w.heap.size + 1 + 1), 6, none⟩ (.slice a6 p.a.length c6) = Y7 := ⟨_, rfl⟩
  have HY7 : Bk Y7 (w.heap.size + 1 + 1) 35 #[.int .i64 p.n, .slice a1 p.st.r.length c1, .int .i64 p.st.q, .int .i64 p.st.d, .slice a4 p.p.length c4, .slice a5 p.t.length c5, .slice a6 p.a.length c6] := hY7 ▸ HY6.put 6 _
  clear HY6
  have hYV : Y7 = V5 := by rw [← hV5, hY7]
  have HQ5 : Hid (Bk V5 (w.heap.size + 1 + 1) 35 #[.int .i64 p.n, .slice a1 p.st.r.length c1, .int .i64 p.st.q, .int .i64 p.st.d, .slice a4 p.p.length c4, .slice a5 p.t.length c5, .slice a6 p.a.length c6]) := hYV ▸ HY7
  clear HY7 hYV hY7
  have HP5 : Hid (Bk V5 w.heap.size 28 #[.int .i64 p.n, u1, .int .i64 p.st.q, .int .i64 p.st.d, u4, u5, u6]) := by rw [← hV5]; exact (HPb4.out.other 6 _ (by omega))
  have HR5 : Hid (Bk V5 (w.heap.size + 1) 35 #[.int .i64 0, .slice none 0 0, .int .i64 0, .int .i64 0, .slice none 0 0, .slice none 0 0, .slice none 0 0]) := by rw [← hV5]; exact (HRb4.out.other 6 _ (by omega))
  have HT5 : Hid (Turns (fun k => k = (w.heap.size + 1 + 1)) w5 V5) := by rw [← hV5]; exact put1_turns _ _ 6 _
  have hy5 : w5.heap.size ≤ V5.heap.size := HT5.out.size
  have HX5 : Hid (Below w.heap.size w V5) := HXb4.out.trans (HT5.out.to_below (fun k e => by omega) (by omega))
  have HO1' : Hid (OwnD V5 (fun k => V1.heap.size ≤ k ∧ k < w2.heap.size) (.slice a1 p.st.r.length c1) (intsD p.st.r)) := HO1.out.turns HT5.out (fun k e => by omega)
  clear HO1
  have HO1 := HO1'
  clear HO1'
  have HO4' : Hid (OwnD V5 (fun k => V2.heap.size ≤ k ∧ k < w3.heap.size) (.slice a4 p.p.length c4) (pastsD p.p)) := HO4.out.turns HT5.out (fun k e => by omega)
  clear HO4
  have HO4 := HO4'
  clear HO4'
  have HO5' : Hid (OwnD V5 (fun k => V3.heap.size ≤ k ∧ k < w4.heap.size) (.slice a5 p.t.length c5) (evsD p.t)) := HO5.out.turns HT5.out (fun k e => by omega)
  clear HO5
  have HO5 := HO5'
  clear HO5'
  have HO6' : Hid (OwnD V5 (fun k => V4.heap.size ≤ k ∧ k < w5.heap.size) (.slice a6 p.a.length c6) (intsD p.a)) := HO6.out.turns HT5.out (fun k e => by omega)
  clear HO6
  have HO6 := HO6'
  clear HO6'
  clear HPb4 HRb4 HQb4 HXb4 HP4 HR4 HQ4 HX4
  have oo0 := HQ5.out.cell (i := 0) rfl
  have rr0 := HR5.out.cell (i := 0) rfl
  have oo1 := HQ5.out.cell (i := 1) rfl
  have rr1 := HR5.out.cell (i := 1) rfl
  have oo2 := HQ5.out.cell (i := 2) rfl
  have rr2 := HR5.out.cell (i := 2) rfl
  have oo3 := HQ5.out.cell (i := 3) rfl
  have rr3 := HR5.out.cell (i := 3) rfl
  have oo4 := HQ5.out.cell (i := 4) rfl
  have rr4 := HR5.out.cell (i := 4) rfl
  have oo5 := HQ5.out.cell (i := 5) rfl
  have rr5 := HR5.out.cell (i := 5) rfl
  have oo6 := HQ5.out.cell (i := 6) rfl
  have rr6 := HR5.out.cell (i := 6) rfl
  have rf := HR5.out.free
  go_wp2
  clear rf oo0 rr0 oo1 rr1 oo2 rr2 oo3 rr3 oo4 rr4 oo5 rr5 oo6 rr6 qq6 qf4 hV5
  have HY0 := HR5.out
  have HU0 : Turns (fun k => k = (w.heap.size + 1)) V5 V5 := Turns.refl _ _
  obtain ⟨Y1, hY1⟩ : ∃ Y1, V5.setCell ⟨(w.heap.size + 1), 0, none⟩ (.int .i64 p.n) = Y1 := ⟨_, rfl⟩
  have HY1 : Bk Y1 (w.heap.size + 1) 35 #[.int .i64 p.n, .slice none 0 0, .int .i64 0, .int .i64 0, .slice none 0 0, .slice none 0 0, .slice none 0 0] := hY1 ▸ HY0.put 0 _
  have HU1 : Turns (fun k => k = (w.heap.size + 1)) V5 Y1 := HU0.trans (hY1 ▸ put1_turns _ _ 0 _)
  clear HY0 HU0
  obtain ⟨Y2, hY2⟩ : ∃ Y2, Y1.setCell ⟨(w.heap.size + 1), 1, none⟩ (.slice a1 p.st.r.length c1) = Y2 := ⟨_, rfl⟩
  have HY2 : Bk Y2 (w.heap.size + 1) 35 #[.int .i64 p.n, .slice a1 p.st.r.length c1, .int .i64 0, .int .i64 0, .slice none 0 0, .slice none 0 0, .slice none 0 0] := hY2 ▸ HY1.put 1 _
  have HU2 : Turns (fun k => k = (w.heap.size + 1)) V5 Y2 := HU1.trans (hY2 ▸ put1_turns _ _ 1 _)
  clear HY1 HU1
  obtain ⟨Y3, hY3⟩ : ∃ Y3, Y2.setCell ⟨(w.heap.size + 1), 2, none⟩ (.int .i64 p.st.q) = Y3 := ⟨_, rfl⟩
  have HY3 : Bk Y3 (w.heap.size + 1) 35 #[.int .i64 p.n, .slice a1 p.st.r.length c1, .int .i64 p.st.q, .int .i64 0, .slice none 0 0, .slice none 0 0, .slice none 0 0] := hY3 ▸ HY2.put 2 _
  have HU3 : Turns (fun k => k = (w.heap.size + 1)) V5 Y3 := HU2.trans (hY3 ▸ put1_turns _ _ 2 _)
  clear HY2 HU2
  obtain ⟨Y4, hY4⟩ : ∃ Y4, Y3.setCell ⟨(w.heap.size + 1), 3, none⟩ (.int .i64 p.st.d) = Y4 := ⟨_, rfl⟩
  have HY4 : Bk Y4 (w.heap.size + 1) 35 #[.int .i64 p.n, .slice a1 p.st.r.length c1, .int .i64 p.st.q, .int .i64 p.st.d, .slice none 0 0, .slice none 0 0, .slice none 0 0] := hY4 ▸ HY3.put 3 _
  have HU4 : Turns (fun k => k = (w.heap.size + 1)) V5 Y4 := HU3.trans (hY4 ▸ put1_turns _ _ 3 _)
  clear HY3 HU3
  obtain ⟨Y5, hY5⟩ : ∃ Y5, Y4.setCell ⟨(w.heap.size + 1), 4, none⟩ (.slice a4 p.p.length c4) = Y5 := ⟨_, rfl⟩
  have HY5 : Bk Y5 (w.heap.size + 1) 35 #[.int .i64 p.n, .slice a1 p.st.r.length c1, .int .i64 p.st.q, .int .i64 p.st.d, .slice a4 p.p.length c4, .slice none 0 0, .slice none 0 0] := hY5 ▸ HY4.put 4 _
  have HU5 : Turns (fun k => k = (w.heap.size + 1)) V5 Y5 := HU4.trans (hY5 ▸ put1_turns _ _ 4 _)
  clear HY4 HU4
  obtain ⟨Y6, hY6⟩ : ∃ Y6, Y5.setCell ⟨(w.heap.size + 1), 5, none⟩ (.slice a5 p.t.length c5) = Y6 := ⟨_, rfl⟩
  have HY6 : Bk Y6 (w.heap.size + 1) 35 #[.int .i64 p.n, .slice a1 p.st.r.length c1, .int .i64 p.st.q, .int .i64 p.st.d, .slice a4 p.p.length c4, .slice a5 p.t.length c5, .slice none 0 0] := hY6 ▸ HY5.put 5 _
  have HU6 : Turns (fun k => k = (w.heap.size + 1)) V5 Y6 := HU5.trans (hY6 ▸ put1_turns _ _ 5 _)
  clear HY5 HU5
  obtain ⟨Y7, hY7⟩ : ∃ Y7, Y6.setCell ⟨(w.heap.size + 1), 6, none⟩ (.slice a6 p.a.length c6) = Y7 := ⟨_, rfl⟩
  have HY7 : Bk Y7 (w.heap.size + 1) 35 #[.int .i64 p.n, .slice a1 p.st.r.length c1, .int .i64 p.st.q, .int .i64 p.st.d, .slice a4 p.p.length c4, .slice a5 p.t.length c5, .slice a6 p.a.length c6] := hY7 ▸ HY6.put 6 _
  have HU7 : Turns (fun k => k = (w.heap.size + 1)) V5 Y7 := HU6.trans (hY7 ▸ put1_turns _ _ 6 _)
  clear HY6 HU6
  rw [hY1, hY2, hY3, hY4, hY5, hY6, hY7]
  have hR := HY7
  have hT := HU7
  have t0 := hR.cell (i := 0) rfl
  have t1 := hR.cell (i := 1) rfl
  have t2 := hR.cell (i := 2) rfl
  have t3 := hR.cell (i := 3) rfl
  have t4 := hR.cell (i := 4) rfl
  have t5 := hR.cell (i := 5) rfl
  have t6 := hR.cell (i := 6) rfl
  have hsz := hT.size
  refine bodyPost_ret (v := .agg #[.int .i64 p.n, .slice a1 p.st.r.length c1, .int .i64 p.st.q, .int .i64 p.st.d, .slice a4 p.p.length c4, .slice a5 p.t.length c5, .slice a6 p.a.length c6]) (by simp [results, Try.results10, go_sem, t0, t1, t2, t3, t4, t5, t6]) rfl
    ⟨_, rfl, HX5.out.trans (hT.to_below (fun k e => by omega) (by omega)), _, _, _, _, _, _, _, _, rfl, HO1.out.turns hT (fun k e => by omega), HO4.out.turns hT (fun k e => by omega), HO5.out.turns hT (fun k e => by omega), HO6.out.turns hT (fun k e => by omega), fun k e => ⟨⟨by omega, by omega⟩, by omega, by omega, by omega⟩, fun k e => ⟨⟨by omega, by omega⟩, by omega, by omega⟩, fun k e => ⟨⟨by omega, by omega⟩, by omega⟩, fun k e => ⟨by omega, by omega⟩⟩
end Go.Proofs.Ytglmdocokfnmcaa

/- How a list of events that came in is read. -/
namespace Go.Proofs.Ytglmdocokfnmcaa
open Go.ChangeShapes Go.WideShapes Go.ChangeAt Go.RowKit

theorem evs_list {w : World} {b off : Nat} : ∀ n, (∀ i, i < n → ∃ e : Ev, Ev.In w b (off + i * 7) e) → ∃ l : List Ev, l.length = n ∧ ∀ i, i < n → Ev.In w b (off + i * 7) (evAt l i)
  | 0, _ => ⟨[], rfl, fun i hi => by omega⟩
  | n + 1, h => by
    obtain ⟨l, hl, hi⟩ := evs_list n (fun i hi => h i (by omega))
    obtain ⟨e, he⟩ := h n (by omega)
    refine ⟨l ++ [e], by simp [hl], fun i hi' => ?_⟩
    by_cases hin : i < n
    · have : evAt (l ++ [e]) i = evAt l i := by unfold evAt; simp [List.getElem?_append_left (by omega : i < l.length)]
      rw [this]; exact hi i hin
    · have : evAt (l ++ [e]) i = e := by unfold evAt; simp [show i = l.length by omega]
      rw [this, show i = n by omega]; exact he

set_option maxRecDepth 100000 in
theorem open_evs {H : Type} {enc : TypeId × Value → H} {w : World} {b0 : Nat} {spare : Nat → Bool} {held : Bool} {r : Reach} {v : Value} {d : DataW H} {p : List MemPlace}
    (hv : Value.okWide Try.prog w r b0 26 v) (h : DataW.Trod enc Try.prog w 0 spare held 26 v d p) : ∃ l : List Ev, IsEvs w v l := by
  obtain ⟨a0, len, cap, rfl⟩ := okWide_slice Try.underlying26 hv
  obtain ⟨fuel, hf⟩ := h
  rcases DataW.trod_slice Try.underlying26 hf with ⟨hcs, _⟩ | ⟨a, len', cap', elems, rest, n, _, hcs, _, hb, hl, hm, hlen, hel, _, _⟩
  · simp [Value.cells] at hcs
    obtain ⟨rfl, rfl, rfl⟩ := hcs
    exact ⟨[], _, _, rfl, Nat.le_refl _, by unfold maxLen; omega, .inl rfl⟩
  · simp [Value.cells] at hcs
    obtain ⟨rfl, rfl, rfl⟩ := hcs
    by_cases h0 : len = 0
    · subst h0
      exact ⟨[], _, _, rfl, hl, hm, .inl rfl⟩
    · obtain ⟨b, off, spot⟩ := a
      have hs : spot = none := by
        have h1 := hel 0 (by omega)
        rw [cells23, List.getElem?_eq_getElem (by omega)] at h1
        obtain ⟨cs, hc, ht⟩ := Option.bind_eq_some_iff.1 h1
        obtain ⟨t, s, q, d, k, v, g, rfl, _⟩ := trod_ev ht
        have c0 := (World.cells?_some hc).2.2 0 (by omega)
        simpa [Addr.add] using World.cell?_spot c0
      subst hs
      have each : ∀ i, i < len → ∃ e : Ev, Ev.In w b (off + i * 7) e ∧ b < w.heap.size := by
        intro i hi
        have h1 := hel i hi
        rw [cells23, List.getElem?_eq_getElem (by omega), add_plain] at h1
        obtain ⟨cs, hc, ht⟩ := Option.bind_eq_some_iff.1 h1
        obtain ⟨t, s, q, d, k, v, g, rfl, _⟩ := trod_ev ht
        have hblk : b < w.heap.size := World.cells?_block hc (by omega)
        obtain ⟨_, _, hcell⟩ := World.cells?_some hc
        simp only [add_plain] at hcell
        exact ⟨⟨t, s, q, d, k, v, g⟩, ⟨hcell 0 (by omega), hcell 1 (by omega), hcell 2 (by omega), hcell 3 (by omega), hcell 4 (by omega), hcell 5 (by omega), hcell 6 (by omega)⟩, hblk⟩
      obtain ⟨_, _, hblk⟩ := each 0 (by omega)
      obtain ⟨l, rfl, hi⟩ := evs_list (w := w) (b := b) (off := off) len (fun i hi => by
        obtain ⟨e, he, _⟩ := each i hi
        exact ⟨e, he⟩)
      exact ⟨l, _, _, rfl, hl, hm, .inr ⟨b, off, rfl, hblk, hi⟩⟩
end Go.Proofs.Ytglmdocokfnmcaa

/- How a model that came in is read. -/
namespace Go.Proofs.Ytglmdocokfnmcaa
open Go.ChangeShapes Go.WideShapes Go.ChangeAt Go.RowKit
theorem cellsInts : Try.prog.cellsOf 22 = 1 := by kernel_rfl
theorem cellsEvs : Try.prog.cellsOf 26 = 1 := by kernel_rfl
theorem list4 {α : Type} {l : List α} (h : l.length = 4) : ∃ a b c d, l = [a, b, c, d] := by
  match l, h with
  | [a, b, c, d], _ => exact ⟨a, b, c, d, rfl⟩
theorem list6 {α : Type} {l : List α} (h : l.length = 6) : ∃ a b c d e f, l = [a, b, c, d, e, f] := by
  match l, h with
  | [a, b, c, d, e, f], _ => exact ⟨a, b, c, d, e, f, rfl⟩
set_option maxRecDepth 100000 in
theorem trod_ints {H : Type} {enc : TypeId × Value → H} {w : World} {spare : Nat → Bool} {held : Bool} {fuel : Nat} {cs : List Value} {x : DataW H × List MemPlace}
    (hf : DataW.trod enc Try.prog w 0 spare held fuel 22 cs = some x) : ∃ v l, cs = [v] ∧ IsI w v l := by
  rcases DataW.trod_slice Try.underlying22 hf with ⟨rfl, _⟩ | ⟨a, len, cap, elems, rest, n, _, rfl, _, hb, hl, hm, hlen, hel, _, _⟩
  · exact ⟨_, [], rfl, none, 0, rfl, Nat.le_refl _, by unfold maxLen; omega, .inl rfl⟩
  · by_cases h0 : len = 0
    · subst h0
      exact ⟨_, [], rfl, _, _, rfl, hl, hm, .inl rfl⟩
    · obtain ⟨b, off, spot⟩ := a
      have hs : spot = none := by
        have h1 := hel 0 (by omega)
        rw [cells3, List.getElem?_eq_getElem (by omega)] at h1
        obtain ⟨cs, hc, ht⟩ := Option.bind_eq_some_iff.1 h1
        obtain ⟨t, rfl, _⟩ := DataW.trod_int Try.underlying3 ht
        have c0 := (World.cells?_some hc).2.2 0 (by omega)
        simpa [Addr.add] using World.cell?_spot c0
      subst hs
      have each : ∀ i, i < len → ∃ z : Int, w.cell? ⟨b, off + i, none⟩ = some (.int .i64 z) ∧ b < w.heap.size := by
        intro i hi
        have h1 := hel i hi
        rw [cells3, List.getElem?_eq_getElem (by omega), add_plain] at h1
        obtain ⟨cs, hc, ht⟩ := Option.bind_eq_some_iff.1 h1
        obtain ⟨t, rfl, _, hw⟩ := DataW.trod_int Try.underlying3 ht
        have hblk : b < w.heap.size := World.cells?_block hc (by omega)
        obtain ⟨_, _, hcell⟩ := World.cells?_some hc
        have h2 := hcell 0 (by omega)
        simp only [add_plain] at h2
        exact ⟨t, by simpa using h2, hblk⟩
      obtain ⟨_, _, hblk⟩ := each 0 (by omega)
      obtain ⟨l, rfl, hi⟩ := ints_list (w := w) (b := b) (off := off) len (fun i hi => by
        obtain ⟨e, he, _⟩ := each i hi
        exact ⟨e, he⟩)
      exact ⟨_, l, rfl, _, _, rfl, hl, hm, .inr ⟨b, off, rfl, hblk, hi⟩⟩
set_option maxRecDepth 100000 in
theorem trod_evs {H : Type} {enc : TypeId × Value → H} {w : World} {spare : Nat → Bool} {held : Bool} {fuel : Nat} {cs : List Value} {x : DataW H × List MemPlace}
    (hf : DataW.trod enc Try.prog w 0 spare held fuel 26 cs = some x) : ∃ v l, cs = [v] ∧ IsEvs w v l := by
  rcases DataW.trod_slice Try.underlying26 hf with ⟨rfl, _⟩ | ⟨a, len, cap, elems, rest, n, _, rfl, _, hb, hl, hm, hlen, hel, _, _⟩
  · exact ⟨_, [], rfl, none, 0, rfl, Nat.le_refl _, by unfold maxLen; omega, .inl rfl⟩
  · by_cases h0 : len = 0
    · subst h0
      exact ⟨_, [], rfl, _, _, rfl, hl, hm, .inl rfl⟩
    · obtain ⟨b, off, spot⟩ := a
      have hs : spot = none := by
        have h1 := hel 0 (by omega)
        rw [cells23, List.getElem?_eq_getElem (by omega)] at h1
        obtain ⟨cs, hc, ht⟩ := Option.bind_eq_some_iff.1 h1
        obtain ⟨t, s, q, d, k, v, g, rfl, _⟩ := trod_ev ht
        have c0 := (World.cells?_some hc).2.2 0 (by omega)
        simpa [Addr.add] using World.cell?_spot c0
      subst hs
      have each : ∀ i, i < len → ∃ e : Ev, Ev.In w b (off + i * 7) e ∧ b < w.heap.size := by
        intro i hi
        have h1 := hel i hi
        rw [cells23, List.getElem?_eq_getElem (by omega), add_plain] at h1
        obtain ⟨cs, hc, ht⟩ := Option.bind_eq_some_iff.1 h1
        obtain ⟨t, s, q, d, k, v, g, rfl, _⟩ := trod_ev ht
        have hblk : b < w.heap.size := World.cells?_block hc (by omega)
        obtain ⟨_, _, hcell⟩ := World.cells?_some hc
        simp only [add_plain] at hcell
        exact ⟨⟨t, s, q, d, k, v, g⟩, ⟨hcell 0 (by omega), hcell 1 (by omega), hcell 2 (by omega), hcell 3 (by omega), hcell 4 (by omega), hcell 5 (by omega), hcell 6 (by omega)⟩, hblk⟩
      obtain ⟨_, _, hblk⟩ := each 0 (by omega)
      obtain ⟨l, rfl, hi⟩ := evs_list (w := w) (b := b) (off := off) len (fun i hi => by
        obtain ⟨e, he, _⟩ := each i hi
        exact ⟨e, he⟩)
      exact ⟨_, l, rfl, _, _, rfl, hl, hm, .inr ⟨b, off, rfl, hblk, hi⟩⟩
theorem os_list {w : World} {b off : Nat} : ∀ n, (∀ i, i < n → ∃ e : O, OAt w b (off + i * 4) e) → ∃ l : List O, l.length = n ∧ ∀ i, i < n → OAt w b (off + i * 4) (oAt l i)
  | 0, _ => ⟨[], rfl, fun i hi => by omega⟩
  | n + 1, h => by
    obtain ⟨l, hl, hi⟩ := os_list n (fun i hi => h i (by omega))
    obtain ⟨e, he⟩ := h n (by omega)
    refine ⟨l ++ [e], by simp [hl], fun i hi' => ?_⟩
    by_cases hin : i < n
    · have : oAt (l ++ [e]) i = oAt l i := by unfold oAt; simp [List.getElem?_append_left (by omega : i < l.length)]
      rw [this]; exact hi i hin
    · have : oAt (l ++ [e]) i = e := by unfold oAt; simp [show i = l.length by omega]
      rw [this, show i = n by omega]; exact he
theorem hs_list {w : World} {b off : Nat} : ∀ n, (∀ i, i < n → ∃ u l, w.cell? ⟨b, off + i, none⟩ = some u ∧ IsO w u l) → ∃ l : List (List O), l.length = n ∧ ∀ i, i < n → ∃ u, w.cell? ⟨b, off + i, none⟩ = some u ∧ IsO w u (hAt l i)
  | 0, _ => ⟨[], rfl, fun i hi => by omega⟩
  | n + 1, h => by
    obtain ⟨l, hl, hi⟩ := hs_list n (fun i hi => h i (by omega))
    obtain ⟨u, r, hu, hr⟩ := h n (by omega)
    refine ⟨l ++ [r], by simp [hl], fun i hi' => ?_⟩
    by_cases hin : i < n
    · have : hAt (l ++ [r]) i = hAt l i := by unfold hAt; simp [List.getElem?_append_left (by omega : i < l.length)]
      rw [this]; exact hi i hin
    · have : hAt (l ++ [r]) i = r := by unfold hAt; simp [show i = l.length by omega]
      rw [this, show i = n by omega]; exact ⟨u, hu, hr⟩
end Go.Proofs.Ytglmdocokfnmcaa

/- How a state that came in is read. -/
namespace Go.Proofs.Ytglmdocokfnmcaa
open Go.ChangeShapes Go.WideShapes Go.ChangeAt Go.RowKit
theorem cellsS : Try.prog.cellsOf 24 = 3 := by kernel_rfl
theorem list3 {α : Type} {l : List α} (h : l.length = 3) : ∃ a b c, l = [a, b, c] := by
  match l, h with
  | [a, b, c], _ => exact ⟨a, b, c, rfl⟩
set_option maxRecDepth 100000 in
theorem open_state {H : Type} {enc : TypeId × Value → H} {w : World} {b0 : Nat} {spare : Nat → Bool} {held : Bool} {r : Reach} {v : Value} {d : DataW H} {p : List MemPlace}
    (hv : Value.okWide Try.prog w r b0 24 v) (h : DataW.Trod enc Try.prog w 0 spare held 24 v d p) : ∃ s : St, IsS w v s := by
  obtain ⟨cs, rfl, hsz⟩ := okWide_struct Try.underlying24 hv
  obtain ⟨fuel, hf⟩ := h
  obtain ⟨xs, n, _, _, hl, hlen, hf⟩ := DataW.trod_struct Try.underlying24 hf
  rw [cellsS] at hl
  obtain ⟨c0, c1, c2, hcs⟩ := list3 hl
  have hx : xs.length = 3 := by simpa using hlen
  obtain ⟨y0, y1, y2, rfl⟩ := list3 hx
  rw [hcs] at hf
  have h0 := hf 0 _ rfl
  have h1 := hf 1 _ rfl
  have h2 := hf 2 _ rfl
  obtain ⟨v0, l0, e0, g0⟩ := trod_ints h0
  obtain ⟨a1, e1, _, _⟩ := DataW.trod_int Try.underlying3 h1
  obtain ⟨a2, e2, _, _⟩ := DataW.trod_int Try.underlying3 h2
  simp [cells3, cellsInts] at e0 e1 e2
  subst e0 e1 e2
  refine ⟨⟨l0, a1, a2⟩, c0, ?_, g0⟩
  rw [show cs = #[c0, .int .i64 a1, .int .i64 a2] from by
    apply Array.toList_inj.1
    simpa [Value.cells] using hcs]
end Go.Proofs.Ytglmdocokfnmcaa

/- How a part that came in is read. -/
namespace Go.Proofs.Ytglmdocokfnmcaa
open Go.ChangeShapes Go.WideShapes Go.ChangeAt Go.RowKit
theorem cellsEm : Try.prog.cellsOf 138 = 3 := by kernel_rfl
theorem cellsEms : Try.prog.cellsOf 94 = 1 := by kernel_rfl
theorem cellsPs : Try.prog.cellsOf 96 = 12 := by kernel_rfl
theorem cellsPss : Try.prog.cellsOf 25 = 1 := by kernel_rfl
theorem cellsPa : Try.prog.cellsOf 28 = 7 := by kernel_rfl
theorem list12 {α : Type} {l : List α} (h : l.length = 12) : ∃ a0 a1 a2 a3 a4 a5 a6 a7 a8 a9 a10 a11, l = [a0, a1, a2, a3, a4, a5, a6, a7, a8, a9, a10, a11] := by
  match l, h with
  | [a0, a1, a2, a3, a4, a5, a6, a7, a8, a9, a10, a11], _ => exact ⟨a0, a1, a2, a3, a4, a5, a6, a7, a8, a9, a10, a11, rfl⟩
theorem list7p {α : Type} {l : List α} (h : l.length = 7) : ∃ a0 a1 a2 a3 a4 a5 a6, l = [a0, a1, a2, a3, a4, a5, a6] := by
  match l, h with
  | [a0, a1, a2, a3, a4, a5, a6], _ => exact ⟨a0, a1, a2, a3, a4, a5, a6, rfl⟩
theorem list5 {α : Type} {l : List α} (h : l.length = 5) : ∃ a0 a1 a2 a3 a4, l = [a0, a1, a2, a3, a4] := by
  match l, h with
  | [a0, a1, a2, a3, a4], _ => exact ⟨a0, a1, a2, a3, a4, rfl⟩
theorem list4p {α : Type} {l : List α} (h : l.length = 4) : ∃ a b c d, l = [a, b, c, d] := by
  match l, h with
  | [a, b, c, d], _ => exact ⟨a, b, c, d, rfl⟩
set_option maxRecDepth 100000 in
theorem trod_emit {H : Type} {enc : TypeId × Value → H} {w : World} {base : Nat} {spare : Nat → Bool} {held : Bool} {fuel : Nat} {cs : List Value} {x : DataW H × List MemPlace}
    (h : DataW.trod enc Try.prog w base spare held fuel 138 cs = some x) : ∃ t l v : Int, cs = [.int .i64 t, .int .i64 l, .int .i64 v] := by
  obtain ⟨xs, n, _, rfl, hl, hlen, hf⟩ := DataW.trod_struct Try.underlying138 h
  rw [cellsEm] at hl
  obtain ⟨c0, c1, c2, rfl⟩ := list3 hl
  have hx : xs.length = 3 := by simpa using hlen
  obtain ⟨y0, y1, y2, rfl⟩ := list3 hx
  have h0 := hf 0 _ rfl
  have h1 := hf 1 _ rfl
  have h2 := hf 2 _ rfl
  obtain ⟨a0, e0, _, w0⟩ := DataW.trod_int Try.underlying3 h0
  obtain ⟨a1, e1, _, w1⟩ := DataW.trod_int Try.underlying3 h1
  obtain ⟨a2, e2, _, w2⟩ := DataW.trod_int Try.underlying3 h2
  simp [cells3] at e0 e1 e2
  subst e0 e1 e2
  exact ⟨a0, a1, a2, rfl⟩
theorem xs_list {w : World} {b off : Nat} : ∀ n, (∀ i, i < n → ∃ e : Em, XAt w b (off + i * 3) e) → ∃ l : List Em, l.length = n ∧ ∀ i, i < n → XAt w b (off + i * 3) (xAt l i)
  | 0, _ => ⟨[], rfl, fun i hi => by omega⟩
  | n + 1, h => by
    obtain ⟨l, hl, hi⟩ := xs_list n (fun i hi => h i (by omega))
    obtain ⟨e, he⟩ := h n (by omega)
    refine ⟨l ++ [e], by simp [hl], fun i hi' => ?_⟩
    by_cases hin : i < n
    · have : xAt (l ++ [e]) i = xAt l i := by unfold xAt; simp [List.getElem?_append_left (by omega : i < l.length)]
      rw [this]; exact hi i hin
    · have : xAt (l ++ [e]) i = e := by unfold xAt; simp [show i = l.length by omega]
      rw [this, show i = n by omega]; exact he
set_option maxRecDepth 100000 in
theorem trod_ems {H : Type} {enc : TypeId × Value → H} {w : World} {spare : Nat → Bool} {held : Bool} {fuel : Nat} {cs : List Value} {x : DataW H × List MemPlace}
    (hf : DataW.trod enc Try.prog w 0 spare held fuel 94 cs = some x) : ∃ v l, cs = [v] ∧ IsX w v l := by
  rcases DataW.trod_slice Try.underlying94 hf with ⟨rfl, _⟩ | ⟨a, len, cap, elems, rest, n, _, rfl, _, hb, hl, hm, hlen, hel, _, _⟩
  · exact ⟨_, [], rfl, none, 0, rfl, Nat.le_refl _, by unfold maxLen; omega, .inl rfl⟩
  · by_cases h0 : len = 0
    · subst h0
      exact ⟨_, [], rfl, _, _, rfl, hl, hm, .inl rfl⟩
    · obtain ⟨b, off, spot⟩ := a
      have hs : spot = none := by
        have h1 := hel 0 (by omega)
        rw [cellsEm, List.getElem?_eq_getElem (by omega)] at h1
        obtain ⟨cs, hc, ht⟩ := Option.bind_eq_some_iff.1 h1
        obtain ⟨t, l, v, rfl⟩ := trod_emit ht
        have c0 := (World.cells?_some hc).2.2 0 (by omega)
        simpa [Addr.add] using World.cell?_spot c0
      subst hs
      have each : ∀ i, i < len → ∃ e : Em, XAt w b (off + i * 3) e ∧ b < w.heap.size := by
        intro i hi
        have h1 := hel i hi
        rw [cellsEm, List.getElem?_eq_getElem (by omega), add_plain] at h1
        obtain ⟨cs, hc, ht⟩ := Option.bind_eq_some_iff.1 h1
        obtain ⟨t, l, v, rfl⟩ := trod_emit ht
        have hblk : b < w.heap.size := World.cells?_block hc (by omega)
        obtain ⟨_, _, hcell⟩ := World.cells?_some hc
        simp only [add_plain] at hcell
        exact ⟨⟨t, l, v⟩, ⟨hcell 0 (by omega), hcell 1 (by omega), hcell 2 (by omega)⟩, hblk⟩
      obtain ⟨_, _, hblk⟩ := each 0 (by omega)
      obtain ⟨l, rfl, hi⟩ := xs_list (w := w) (b := b) (off := off) len (fun i hi => by
        obtain ⟨e, he, _⟩ := each i hi
        exact ⟨e, he⟩)
      exact ⟨_, l, rfl, _, _, rfl, hl, hm, .inr ⟨b, off, rfl, hblk, hi⟩⟩
set_option maxRecDepth 100000 in
theorem trod_state {H : Type} {enc : TypeId × Value → H} {w : World} {spare : Nat → Bool} {held : Bool} {fuel : Nat} {cs : List Value} {x : DataW H × List MemPlace}
    (h : DataW.trod enc Try.prog w 0 spare held fuel 24 cs = some x) : ∃ (s : St) (v : Value), cs = [v, .int .i64 s.q, .int .i64 s.d] ∧ IsI w v s.r := by
  obtain ⟨xs, n, _, _, hl, hlen, hf⟩ := DataW.trod_struct Try.underlying24 h
  rw [cellsS] at hl
  obtain ⟨c0, c1, c2, rfl⟩ := list3 hl
  have hx : xs.length = 3 := by simpa using hlen
  obtain ⟨y0, y1, y2, rfl⟩ := list3 hx
  have h0 := hf 0 _ rfl
  have h1 := hf 1 _ rfl
  have h2 := hf 2 _ rfl
  obtain ⟨v0, l0, e0, g0⟩ := trod_ints h0
  obtain ⟨a1, e1, _, _⟩ := DataW.trod_int Try.underlying3 h1
  obtain ⟨a2, e2, _, _⟩ := DataW.trod_int Try.underlying3 h2
  simp [cells3, cellsInts] at e0 e1 e2
  subst e0 e1 e2
  exact ⟨⟨l0, a1, a2⟩, c0, rfl, g0⟩
set_option maxRecDepth 100000 in
theorem trod_past {H : Type} {enc : TypeId × Value → H} {w : World} {spare : Nat → Bool} {held : Bool} {fuel : Nat} {cs : List Value} {x : DataW H × List MemPlace}
    (h : DataW.trod enc Try.prog w 0 spare held fuel 96 cs = some x) : ∃ (p : Ps) (u7 u10 u11 : Value), cs = [.int .i64 p.e.t, .int .i64 p.e.s, .int .i64 p.e.q, .int .i64 p.e.d, .int .i64 p.e.k, .int .i64 p.e.v, .int .i64 p.e.g, u7, .int .i64 p.b.q, .int .i64 p.b.d, u10, u11] ∧ IsD w u7 (intsD p.b.r) ∧ IsD w u10 (evsD p.s) ∧ IsD w u11 (emsD p.x) := by
  obtain ⟨xs, n, _, _, hl, hlen, hf⟩ := DataW.trod_struct Try.underlying96 h
  rw [cellsPs] at hl
  obtain ⟨c0, c1, c2, c3, c4, c5, c6, c7, c8, c9, c10, c11, rfl⟩ := list12 hl
  have hx : xs.length = 4 := by simpa using hlen
  obtain ⟨y0, y1, y2, y3, rfl⟩ := list4p hx
  have h0 := hf 0 _ rfl
  have h1 := hf 1 _ rfl
  have h2 := hf 2 _ rfl
  have h3 := hf 3 _ rfl
  obtain ⟨t, s, q, d, k, v, g, e0, _⟩ := trod_ev h0
  obtain ⟨st, v1, e1, g1⟩ := trod_state h1
  obtain ⟨v2, l2, e2, g2⟩ := trod_evs h2
  obtain ⟨v3, l3, e3, g3⟩ := trod_ems h3
  simp [cells23, cellsS, cellsEvs, cellsEms] at e0 e1 e2 e3
  obtain ⟨rfl, rfl, rfl, rfl, rfl, rfl, rfl⟩ := e0
  obtain ⟨rfl, rfl, rfl⟩ := e1
  subst e2 e3
  exact ⟨⟨⟨t, s, q, d, k, v, g⟩, st, l2, l3⟩, c7, c10, c11, rfl, g1.isD, g2.isD, g3.isD⟩
theorem ps_list {w : World} {b off : Nat} : ∀ n, (∀ i, i < n → ∃ p : Ps, ∀ r, r < 12 → ∃ u, w.cell? ⟨b, off + i * 12 + r, none⟩ = some u ∧ IsD w u (p.cell r)) →
    ∃ l : List Ps, l.length = n ∧ ∀ i, i < n → ∀ r, r < 12 → ∃ u, w.cell? ⟨b, off + i * 12 + r, none⟩ = some u ∧ IsD w u ((psAt l i).cell r)
  | 0, _ => ⟨[], rfl, fun i hi => by omega⟩
  | n + 1, h => by
    obtain ⟨l, hl, hi⟩ := ps_list n (fun i hi => h i (by omega))
    obtain ⟨e, he⟩ := h n (by omega)
    refine ⟨l ++ [e], by simp [hl], fun i hi' => ?_⟩
    by_cases hin : i < n
    · have : psAt (l ++ [e]) i = psAt l i := by unfold psAt; simp [List.getElem?_append_left (by omega : i < l.length)]
      rw [this]; exact hi i hin
    · have : psAt (l ++ [e]) i = e := by unfold psAt; simp [show i = l.length by omega]
      rw [this, show i = n by omega]; exact he
set_option maxRecDepth 100000 in
theorem trod_pasts {H : Type} {enc : TypeId × Value → H} {w : World} {spare : Nat → Bool} {held : Bool} {fuel : Nat} {cs : List Value} {x : DataW H × List MemPlace}
    (hf : DataW.trod enc Try.prog w 0 spare held fuel 25 cs = some x) : ∃ v l, cs = [v] ∧ IsD w v (pastsD l) := by
  rcases DataW.trod_slice Try.underlying25 hf with ⟨rfl, _⟩ | ⟨a, len, cap, elems, rest, n, _, rfl, _, hb, hl, hm, hlen, hel, _, _⟩
  · exact ⟨_, [], rfl, .nil none 0 12 _ (by unfold maxLen; omega)⟩
  · by_cases h0 : len = 0
    · subst h0
      exact ⟨_, [], rfl, .nil _ _ 12 _ hm⟩
    · obtain ⟨b, off, spot⟩ := a
      have hs : spot = none := by
        have h1 := hel 0 (by omega)
        rw [cellsPs, List.getElem?_eq_getElem (by omega)] at h1
        obtain ⟨cs, hc, ht⟩ := Option.bind_eq_some_iff.1 h1
        obtain ⟨p, u7, u10, u11, rfl, _⟩ := trod_past ht
        have c0 := (World.cells?_some hc).2.2 0 (by omega)
        simpa [Addr.add] using World.cell?_spot c0
      subst hs
      have each : ∀ i, i < len → ∃ p : Ps, (∀ r, r < 12 → ∃ u, w.cell? ⟨b, off + i * 12 + r, none⟩ = some u ∧ IsD w u (p.cell r)) ∧ b < w.heap.size := by
        intro i hi
        have h1 := hel i hi
        rw [cellsPs, List.getElem?_eq_getElem (by omega), add_plain] at h1
        obtain ⟨cs, hc, ht⟩ := Option.bind_eq_some_iff.1 h1
        obtain ⟨p, u7, u10, u11, rfl, g7, g10, g11⟩ := trod_past ht
        have hblk : b < w.heap.size := World.cells?_block hc (by omega)
        obtain ⟨_, _, hcell⟩ := World.cells?_some hc
        simp only [add_plain] at hcell
        refine ⟨p, fun r hr => ?_, hblk⟩
        have hcr := hcell r hr
        match r, hr, hcr with
        | 0, _, hcr => exact ⟨_, hcr, .val _⟩
        | 1, _, hcr => exact ⟨_, hcr, .val _⟩
        | 2, _, hcr => exact ⟨_, hcr, .val _⟩
        | 3, _, hcr => exact ⟨_, hcr, .val _⟩
        | 4, _, hcr => exact ⟨_, hcr, .val _⟩
        | 5, _, hcr => exact ⟨_, hcr, .val _⟩
        | 6, _, hcr => exact ⟨_, hcr, .val _⟩
        | 7, _, hcr => exact ⟨_, hcr, g7⟩
        | 8, _, hcr => exact ⟨_, hcr, .val _⟩
        | 9, _, hcr => exact ⟨_, hcr, .val _⟩
        | 10, _, hcr => exact ⟨_, hcr, g10⟩
        | 11, _, hcr => exact ⟨_, hcr, g11⟩
      obtain ⟨_, _, hblk⟩ := each 0 (by omega)
      obtain ⟨l, rfl, hi⟩ := ps_list (w := w) (b := b) (off := off) len (fun i hi => by
        obtain ⟨e, he, _⟩ := each i hi
        exact ⟨e, he⟩)
      refine ⟨_, l, rfl, IsD.of_parts hl hm (.inr ⟨b, off, rfl, hblk, fun j hj => ?_⟩)⟩
      obtain ⟨u, hu, hd⟩ := hi (j / 12) (by omega) (j % 12) (by omega)
      refine ⟨u, ?_, hd⟩
      rw [← hu]
      congr 2
      omega
set_option maxRecDepth 100000 in
theorem open_part {H : Type} {enc : TypeId × Value → H} {w : World} {b0 : Nat} {spare : Nat → Bool} {held : Bool} {r : Reach} {v : Value} {d : DataW H} {p : List MemPlace}
    (hv : Value.okWide Try.prog w r b0 28 v) (h : DataW.Trod enc Try.prog w 0 spare held 28 v d p) : ∃ p : Pa, IsPart w v p := by
  obtain ⟨cs, rfl, hsz⟩ := okWide_struct Try.underlying28 hv
  obtain ⟨fuel, hf⟩ := h
  obtain ⟨xs, n, _, _, hl, hlen, hf⟩ := DataW.trod_struct Try.underlying28 hf
  rw [cellsPa] at hl
  obtain ⟨c0, c1, c2, c3, c4, c5, c6, hcs⟩ := list7p hl
  have hx : xs.length = 5 := by simpa using hlen
  obtain ⟨y0, y1, y2, y3, y4, rfl⟩ := list5 hx
  rw [hcs] at hf
  have h0 := hf 0 _ rfl
  have h1 := hf 1 _ rfl
  have h2 := hf 2 _ rfl
  have h3 := hf 3 _ rfl
  have h4 := hf 4 _ rfl
  obtain ⟨a0, e0, _, _⟩ := DataW.trod_int Try.underlying3 h0
  obtain ⟨st, v1, e1, g1⟩ := trod_state h1
  obtain ⟨v2, l2, e2, g2⟩ := trod_pasts h2
  obtain ⟨v3, l3, e3, g3⟩ := trod_evs h3
  obtain ⟨v4, l4, e4, g4⟩ := trod_ints h4
  simp [cells3, cellsS, cellsPss, cellsEvs, cellsInts] at e0 e1 e2 e3 e4
  obtain ⟨rfl, rfl, rfl⟩ := e1
  subst e0 e2 e3 e4
  refine ⟨⟨a0, st, l2, l3, l4⟩, c1, c4, c5, c6, ?_, g1.isD, g2, g3.isD, g4.isD⟩
  rw [show cs = #[.int .i64 a0, c1, .int .i64 st.q, .int .i64 st.d, c4, c5, c6] from by
    apply Array.toList_inj.1
    simpa [Value.cells] using hcs]
end Go.Proofs.Ytglmdocokfnmcaa

