/- HyA, HyC, TMk, HyM, VLow, NBytes -/
import Derived.Test.YtbcdfacbhemijaaDoorExactHistoryTextCardG17
import Derived.Test.YtbcdfacbhemijaaDoorExactHistoryTextCardG06
import Derived.Test.YtbcdfacbhemijaaDoorExactHistoryTextCardG00
import Derived.Lib.UnsafeStr
import Derived.OwnWalk
import Derived.Deep.RegionHeld3
/- szHistory, eqHistory. -/
namespace Go.Proofs.YtbcdfacbhemijaaDoor
open Go.RowKit
set_option maxHeartbeats 4000000 in
theorem szHistory_any (x : Value) (p : Hy) (left : Int) (w : World) (h0 : 0 ≤ left) (h1 : left ≤ 1048576) (h : IsHistory w x p) :
    Calls Tryd.prog 14 #[x, .int .i64 left] w fun e w' => (∃ r, e = .returned (.int .i64 r) ∧ SzR p.wt left r) ∧ Below w.heap.size w w' := by
  obtain ⟨u0, u1, rfl, h0, h1⟩ := h
  have H0 : Hid (IsD w u0 (evsD p.e)) := h0
  have H1 : Hid (IsD w u1 (emsD p.x)) := h1
  clear h0 h1
  obtain ⟨W0, hW0⟩ : ∃ W0, w.alloc (.cells #[u0, u1, .int .i64 p.a, .bool p.f] 42) = W0 := ⟨_, rfl⟩
  have HB0 : Hid (Below w.heap.size w W0) := by rw [← hW0]; exact (Below.refl _ w).alloc (Nat.le_refl _) _
  have HP0 : Hid (Bk W0 w.heap.size 42 #[u0, u1, .int .i64 p.a, .bool p.f]) := by rw [← hW0]; exact Bk.new w _ _
  have HW : Hid (w.alloc (.cells #[u0, u1, .int .i64 p.a, .bool p.f] 42) = W0) := hW0
  clear hW0
  go_enter Tryd.func14, Tryd.ntmps14
  have p0 := HP0.out.cell (i := 0) rfl
  go_wp2_with fail
  rw [HW.out]
  clear HW
  clear p0
  refine (sz_evs _ p.e _ _ h0 h1 (H0.out.under HB0.out)).mono ?_
  rintro e w1 ⟨⟨r1, rfl, hr⟩, hb⟩
  have HB1 : Hid (Below w.heap.size w w1) := HB0.out.trans (hb.mono HB0.out.size)
  have HP1 : Hid (Bk w1 w.heap.size 42 #[u0, u1, .int .i64 p.a, .bool p.f]) := HP0.out.below hb
  clear hb
  rcases hr with rfl | ⟨r10, hr⟩
  · go_wp2
    go_ret
    exact ⟨⟨_, rfl, .inl rfl⟩, HB1.out⟩
  have r11 : r1 ≤ 1048576 := by omega
  have r12 : ¬ (r1 < 0) := by omega
  have HR1 : Hid (r1 + ((evsD p.e).wt : Int) = left) := hr
  clear hr
  have p1 := HP1.out.cell (i := 1) rfl
  go_wp2_with fail
  clear p1
  refine (sz_ems _ p.x _ _ r10 r11 (H1.out.under HB1.out)).mono ?_
  rintro e w2 ⟨⟨r2, rfl, hr⟩, hb⟩
  have HB2 : Hid (Below w.heap.size w w2) := HB1.out.trans (hb.mono HB1.out.size)
  have HP2 : Hid (Bk w2 w.heap.size 42 #[u0, u1, .int .i64 p.a, .bool p.f]) := HP1.out.below hb
  clear hb
  rcases hr with rfl | ⟨r20, hr⟩
  · go_wp2
    go_ret
    exact ⟨⟨_, rfl, .inl rfl⟩, HB2.out⟩
  have r21 : r2 ≤ 1048576 := by omega
  have r22 : ¬ (r2 < 0) := by omega
  have HR2 : Hid (r2 + ((emsD p.x).wt : Int) = r1) := hr
  clear hr
  go_wp2
  go_ret
  refine ⟨⟨_, rfl, .inr ⟨r20, ?_⟩⟩, HB2.out⟩
  have := HR1.out
  have := HR2.out
  unfold Hy.wt
  omega
set_option maxHeartbeats 4000000 in
theorem eqHistory_same (x y : Value) (p : Hy) (w : World) (hw : p.wt ≤ 1048576) (hx : IsHistory w x p) (hy : IsHistory w y p) :
    Calls Tryd.prog 18 #[x, y] w fun e w' => e = .returned (.bool true) ∧ Below w.heap.size w w' := by
  obtain ⟨u0, u1, rfl, h0, h1⟩ := hx
  obtain ⟨v0, v1, rfl, k0, k1⟩ := hy
  have H0 : Hid (IsD w u0 (evsD p.e) ∧ IsD w v0 (evsD p.e)) := ⟨h0, k0⟩
  have H1 : Hid (IsD w u1 (emsD p.x) ∧ IsD w v1 (emsD p.x)) := ⟨h1, k1⟩
  have HS : Hid (p.wt ≤ 1048576) := hw
  clear hw h0 k0 h1 k1
  obtain ⟨W0, hW0⟩ : ∃ W0, (w.alloc (.cells #[u0, u1, .int .i64 p.a, .bool p.f] 47)).alloc (.cells #[v0, v1, .int .i64 p.a, .bool p.f] 47) = W0 := ⟨_, rfl⟩
  have HB0 : Hid (Below w.heap.size w W0) := by rw [← hW0]; exact ((Below.refl _ w).alloc (Nat.le_refl _) _).alloc (by simp) _
  have HP0 : Hid (Bk W0 w.heap.size 47 #[u0, u1, .int .i64 p.a, .bool p.f]) := by rw [← hW0]; exact (Bk.new w _ _).alloc _
  have HQ0 : Hid (Bk W0 (w.heap.size + 1) 47 #[v0, v1, .int .i64 p.a, .bool p.f]) := by rw [← hW0]; exact Bk.newAt (by simp) _ _
  have HW : Hid ((w.alloc (.cells #[u0, u1, .int .i64 p.a, .bool p.f] 47)).alloc (.cells #[v0, v1, .int .i64 p.a, .bool p.f] 47) = W0) := hW0
  clear hW0
  go_enter Tryd.func18, Tryd.ntmps18
  have p0 := HP0.out.cell (i := 0) rfl
  have q0 := HQ0.out.cell (i := 0) rfl
  go_wp2_with fail
  rw [HW.out]
  clear HW
  clear p0 q0
  refine (eq_evs _ _ p.e _ (by have := HS.out; unfold Hy.wt at this; simp only [ems_wt, evs_wt] at this; omega) (H0.out.1.under HB0.out) (H0.out.2.under HB0.out)).mono ?_
  rintro e w1 ⟨rfl, hb⟩
  have HB1 : Hid (Below w.heap.size w w1) := HB0.out.trans (hb.mono HB0.out.size)
  have HP1 : Hid (Bk w1 w.heap.size 47 #[u0, u1, .int .i64 p.a, .bool p.f]) := HP0.out.below hb
  have HQ1 : Hid (Bk w1 (w.heap.size + 1) 47 #[v0, v1, .int .i64 p.a, .bool p.f]) := HQ0.out.below hb
  clear hb
  have p1 := HP1.out.cell (i := 1) rfl
  have q1 := HQ1.out.cell (i := 1) rfl
  go_wp2_with fail
  clear p1 q1
  refine (eq_ems _ _ p.x _ (by have := HS.out; unfold Hy.wt at this; simp only [ems_wt, evs_wt] at this; omega) (H1.out.1.under HB1.out) (H1.out.2.under HB1.out)).mono ?_
  rintro e w2 ⟨rfl, hb⟩
  have HB2 : Hid (Below w.heap.size w w2) := HB1.out.trans (hb.mono HB1.out.size)
  have HP2 : Hid (Bk w2 w.heap.size 47 #[u0, u1, .int .i64 p.a, .bool p.f]) := HP1.out.below hb
  have HQ2 : Hid (Bk w2 (w.heap.size + 1) 47 #[v0, v1, .int .i64 p.a, .bool p.f]) := HQ1.out.below hb
  clear hb
  have p2 := HP2.out.cell (i := 2) rfl
  have q2 := HQ2.out.cell (i := 2) rfl
  have p3 := HP2.out.cell (i := 3) rfl
  have q3 := HQ2.out.cell (i := 3) rfl
  go_wp2
  go_ret
  exact ⟨rfl, HB2.out⟩
end Go.Proofs.YtbcdfacbhemijaaDoor

/- toHistory: a copy of its own. -/
namespace Go.Proofs.YtbcdfacbhemijaaDoor
open Go.RowKit
def HistoryF (F : Nat → Prop) (w : World) (y : Value) (p : Hy) : Prop :=
  ∃ (A0 A1 : Nat → Prop) (u0 u1 : Value), y = .agg #[u0, u1, .int .i64 p.a, .bool p.f] ∧ OwnD w A0 u0 (evsD p.e) ∧ OwnD w A1 u1 (emsD p.x) ∧ (∀ k, A0 k → F k ∧ ¬ A1 k) ∧ (∀ k, A1 k → F k)
theorem HistoryF.is {F : Nat → Prop} {w : World} {y : Value} {p : Hy} (h : HistoryF F w y p) : IsHistory w y p := by
  obtain ⟨A0, A1, u0, u1, rfl, h0, h1, d0, d1⟩ := h
  exact ⟨u0, u1, rfl, h0.isD, h1.isD⟩
theorem HistoryF.turns {F S : Nat → Prop} {w w' : World} {y : Value} {p : Hy} (h : HistoryF F w y p) (ht : Turns S w w') (hS : ∀ k, F k → ¬ S k) : HistoryF F w' y p := by
  obtain ⟨A0, A1, u0, u1, rfl, h0, h1, d0, d1⟩ := h
  exact ⟨A0, A1, u0, u1, rfl, h0.turns ht (fun k hk => hS k (d0 k hk).1), h1.turns ht (fun k hk => hS k (d1 k hk)), d0, d1⟩
theorem HistoryF.under {F : Nat → Prop} {w w' : World} {y : Value} {p : Hy} (h : HistoryF F w y p) (hb : Below w.heap.size w w') : HistoryF F w' y p :=
  h.turns (S := fun _ => False) (Turns.of_below hb) (fun _ _ => id)
theorem HistoryF.mono {F F' : Nat → Prop} {w : World} {y : Value} {p : Hy} (h : HistoryF F w y p) (hF : ∀ k, F k → F' k) : HistoryF F' w y p := by
  obtain ⟨A0, A1, u0, u1, rfl, h0, h1, d0, d1⟩ := h
  exact ⟨A0, A1, u0, u1, rfl, h0, h1, fun k hk => ⟨hF k (d0 k hk).1, (d0 k hk).2⟩, fun k hk => hF k (d1 k hk)⟩
theorem HistoryF.form {F : Nat → Prop} {w : World} {y : Value} {p : Hy} (h : HistoryF F w y p) : ∃ a0 c0 a1 c1, y = .agg #[.slice a0 p.e.length c0, .slice a1 p.x.length c1, .int .i64 p.a, .bool p.f] := by
  obtain ⟨A0, A1, u0, u1, rfl, h0, h1, d0, d1⟩ := h
  obtain ⟨a0, c0, rfl, _⟩ := OwnD.parts (c := 7) (n := p.e.length) h0
  obtain ⟨a1, c1, rfl, _⟩ := OwnD.parts (c := 3) (n := p.x.length) h1
  exact ⟨a0, c0, a1, c1, rfl⟩
set_option maxHeartbeats 8000000 in
theorem toHistory_any (x : Value) (p : Hy) (w : World) (hw : p.wt ≤ 1048576) (h : IsHistory w x p) :
    Calls Tryd.prog 16 #[x] w fun e w' => ∃ y, e = .returned y ∧ Below w.heap.size w w' ∧ HistoryF (fun k => w.heap.size ≤ k ∧ k < w'.heap.size) w' y p := by
  obtain ⟨u0, u1, rfl, h0, h1⟩ := h
  have HS : Hid (p.wt ≤ 1048576) := hw
  have H0 : Hid (IsD w u0 (evsD p.e)) := h0
  have H1 : Hid (IsD w u1 (emsD p.x)) := h1
  clear hw h0 h1
  obtain ⟨V0, hV0⟩ : ∃ V0, ((w.alloc (.cells #[u0, u1, .int .i64 p.a, .bool p.f] 42)).alloc (.cells #[.slice none 0 0, .slice none 0 0, .int .i64 0, .bool false] 47)).alloc (.cells #[.slice none 0 0, .slice none 0 0, .int .i64 0, .bool false] 47) = V0 := ⟨_, rfl⟩
  have HX0 : Hid (Below w.heap.size w V0) := by rw [← hV0]; exact (((Below.refl _ w).alloc (Nat.le_refl _) _).alloc (by simp) _).alloc (by simp; omega) _
  have hs0 : w.heap.size + 3 ≤ V0.heap.size := by rw [← hV0]; simp
  have HP0 : Hid (Bk V0 w.heap.size 42 #[u0, u1, .int .i64 p.a, .bool p.f]) := by rw [← hV0]; exact ((Bk.new w _ _).alloc _).alloc _
  have HR0 : Hid (Bk V0 (w.heap.size + 1) 47 #[.slice none 0 0, .slice none 0 0, .int .i64 0, .bool false]) := by rw [← hV0]; exact (Bk.newAt (by simp) _ _).alloc _
  have HQ0 : Hid (Bk V0 (w.heap.size + 1 + 1) 47 #[.slice none 0 0, .slice none 0 0, .int .i64 0, .bool false]) := by rw [← hV0]; exact Bk.newAt (by simp) _ _
  have HW0 : Hid (((w.alloc (.cells #[u0, u1, .int .i64 p.a, .bool p.f] 42)).alloc (.cells #[.slice none 0 0, .slice none 0 0, .int .i64 0, .bool false] 47)).alloc (.cells #[.slice none 0 0, .slice none 0 0, .int .i64 0, .bool false] 47) = V0) := hV0
  clear hV0
  go_enter Tryd.func16, Tryd.ntmps16
  have p0 := HP0.out.cell (i := 0) rfl
  go_wp2_with fail
  rw [HW0.out]
  clear p0
  refine (to_evs _ p.e _ (by have := HS.out; unfold Hy.wt at this; simp only [ems_wt, evs_wt] at this; omega) (H0.out.under HX0.out)).mono ?_
  rintro e w1 ⟨y0, rfl, hb, ho0⟩
  have HO0 : Hid (OwnD w1 (fun k => V0.heap.size ≤ k ∧ k < w1.heap.size) y0 (evsD p.e)) := ho0
  obtain ⟨a0, c0, rfl, _⟩ := OwnD.parts (c := 7) (n := p.e.length) ho0
  clear ho0
  have hz0 : V0.heap.size ≤ w1.heap.size := hb.size
  have HXb0 : Hid (Below w.heap.size w w1) := HX0.out.trans (hb.mono (by omega))
  have HPb0 : Hid (Bk w1 w.heap.size 42 #[u0, u1, .int .i64 p.a, .bool p.f]) := HP0.out.below hb
  have HRb0 : Hid (Bk w1 (w.heap.size + 1) 47 #[.slice none 0 0, .slice none 0 0, .int .i64 0, .bool false]) := HR0.out.below hb
  have HQb0 : Hid (Bk w1 (w.heap.size + 1 + 1) 47 #[.slice none 0 0, .slice none 0 0, .int .i64 0, .bool false]) := HQ0.out.below hb
  clear hb
  obtain ⟨V1, hV1⟩ : ∃ V1, (w1.setCell ⟨(w.heap.size + 1 + 1), 0, none⟩ (.slice a0 p.e.length c0)) = V1 := ⟨_, rfl⟩
  have qq0 := HQb0.out.cell (i := 0) rfl
  have qf0 := HQb0.out.free
  have HY0 := HQb0.out
  obtain ⟨Y1, hY1⟩ : ∃ Y1, w1.setCell ⟨(w.heap.size + 1 + 1), 0, none⟩ (.slice a0 p.e.length c0) = Y1 := ⟨_, rfl⟩
  have HY1 : Bk Y1 (w.heap.size + 1 + 1) 47 #[.slice a0 p.e.length c0, .slice none 0 0, .int .i64 0, .bool false] := hY1 ▸ HY0.put 0 _
  clear HY0
  have hYV : Y1 = V1 := by rw [← hV1, hY1]
  have HQ1 : Hid (Bk V1 (w.heap.size + 1 + 1) 47 #[.slice a0 p.e.length c0, .slice none 0 0, .int .i64 0, .bool false]) := hYV ▸ HY1
  clear HY1 hYV hY1
  have HP1 : Hid (Bk V1 w.heap.size 42 #[u0, u1, .int .i64 p.a, .bool p.f]) := by rw [← hV1]; exact (HPb0.out.other 0 _ (by omega))
  have HR1 : Hid (Bk V1 (w.heap.size + 1) 47 #[.slice none 0 0, .slice none 0 0, .int .i64 0, .bool false]) := by rw [← hV1]; exact (HRb0.out.other 0 _ (by omega))
  have HT1 : Hid (Turns (fun k => k = (w.heap.size + 1 + 1)) w1 V1) := by rw [← hV1]; exact put1_turns _ _ 0 _
  have hy1 : w1.heap.size ≤ V1.heap.size := HT1.out.size
  have HX1 : Hid (Below w.heap.size w V1) := HXb0.out.trans (HT1.out.to_below (fun k e => by omega) (by omega))
  have HO0' : Hid (OwnD V1 (fun k => V0.heap.size ≤ k ∧ k < w1.heap.size) (.slice a0 p.e.length c0) (evsD p.e)) := HO0.out.turns HT1.out (fun k e => by omega)
  clear HO0
  have HO0 := HO0'
  clear HO0'
  clear HPb0 HRb0 HQb0 HXb0 HP0 HR0 HQ0 HX0
  have p1 := HP1.out.cell (i := 1) rfl
  go_wp2_with fail
  clear qq0 qf0 hV1 p1
  refine (to_ems _ p.x _ (by have := HS.out; unfold Hy.wt at this; simp only [ems_wt, evs_wt] at this; omega) (H1.out.under HX1.out)).mono ?_
  rintro e w2 ⟨y1, rfl, hb, ho1⟩
  have HO1 : Hid (OwnD w2 (fun k => V1.heap.size ≤ k ∧ k < w2.heap.size) y1 (emsD p.x)) := ho1
  obtain ⟨a1, c1, rfl, _⟩ := OwnD.parts (c := 3) (n := p.x.length) ho1
  clear ho1
  have hz1 : V1.heap.size ≤ w2.heap.size := hb.size
  have HXb1 : Hid (Below w.heap.size w w2) := HX1.out.trans (hb.mono (by omega))
  have HPb1 : Hid (Bk w2 w.heap.size 42 #[u0, u1, .int .i64 p.a, .bool p.f]) := HP1.out.below hb
  have HRb1 : Hid (Bk w2 (w.heap.size + 1) 47 #[.slice none 0 0, .slice none 0 0, .int .i64 0, .bool false]) := HR1.out.below hb
  have HQb1 : Hid (Bk w2 (w.heap.size + 1 + 1) 47 #[.slice a0 p.e.length c0, .slice none 0 0, .int .i64 0, .bool false]) := HQ1.out.below hb
  have HO0' : Hid (OwnD w2 (fun k => V0.heap.size ≤ k ∧ k < w1.heap.size) (.slice a0 p.e.length c0) (evsD p.e)) := HO0.out.under hb
  clear HO0
  have HO0 := HO0'
  clear HO0'
  clear hb
  obtain ⟨V2, hV2⟩ : ∃ V2, (w2.setCell ⟨(w.heap.size + 1 + 1), 1, none⟩ (.slice a1 p.x.length c1)) = V2 := ⟨_, rfl⟩
  have qq1 := HQb1.out.cell (i := 1) rfl
  have qf1 := HQb1.out.free
  have HY1 := HQb1.out
  obtain ⟨Y2, hY2⟩ : ∃ Y2, w2.setCell ⟨(w.heap.size + 1 + 1), 1, none⟩ (.slice a1 p.x.length c1) = Y2 := ⟨_, rfl⟩
  have HY2 : Bk Y2 (w.heap.size + 1 + 1) 47 #[.slice a0 p.e.length c0, .slice a1 p.x.length c1, .int .i64 0, .bool false] := hY2 ▸ HY1.put 1 _
  clear HY1
  have hYV : Y2 = V2 := by rw [← hV2, hY2]
  have HQ2 : Hid (Bk V2 (w.heap.size + 1 + 1) 47 #[.slice a0 p.e.length c0, .slice a1 p.x.length c1, .int .i64 0, .bool false]) := hYV ▸ HY2
  clear HY2 hYV hY2
  have HP2 : Hid (Bk V2 w.heap.size 42 #[u0, u1, .int .i64 p.a, .bool p.f]) := by rw [← hV2]; exact (HPb1.out.other 1 _ (by omega))
  have HR2 : Hid (Bk V2 (w.heap.size + 1) 47 #[.slice none 0 0, .slice none 0 0, .int .i64 0, .bool false]) := by rw [← hV2]; exact (HRb1.out.other 1 _ (by omega))
  have HT2 : Hid (Turns (fun k => k = (w.heap.size + 1 + 1)) w2 V2) := by rw [← hV2]; exact put1_turns _ _ 1 _
  have hy2 : w2.heap.size ≤ V2.heap.size := HT2.out.size
  have HX2 : Hid (Below w.heap.size w V2) := HXb1.out.trans (HT2.out.to_below (fun k e => by omega) (by omega))
  have HO0' : Hid (OwnD V2 (fun k => V0.heap.size ≤ k ∧ k < w1.heap.size) (.slice a0 p.e.length c0) (evsD p.e)) := HO0.out.turns HT2.out (fun k e => by omega)
  clear HO0
  have HO0 := HO0'
  clear HO0'
  have HO1' : Hid (OwnD V2 (fun k => V1.heap.size ≤ k ∧ k < w2.heap.size) (.slice a1 p.x.length c1) (emsD p.x)) := HO1.out.turns HT2.out (fun k e => by omega)
  clear HO1
  have HO1 := HO1'
  clear HO1'
  clear HPb1 HRb1 HQb1 HXb1 HP1 HR1 HQ1 HX1
  have pp2 := HP2.out.cell (i := 2) rfl
  have qq2 := HQ2.out.cell (i := 2) rfl
  have qf2 := HQ2.out.free
  obtain ⟨V3, hV3⟩ : ∃ V3, (V2.setCell ⟨(w.heap.size + 1 + 1), 2, none⟩ (.int .i64 p.a)) = V3 := ⟨_, rfl⟩
  have HY2 := HQ2.out
  obtain ⟨Y3, hY3⟩ : ∃ Y3, V2.setCell ⟨(w.heap.size + 1 + 1), 2, none⟩ (.int .i64 p.a) = Y3 := ⟨_, rfl⟩
  have HY3 : Bk Y3 (w.heap.size + 1 + 1) 47 #[.slice a0 p.e.length c0, .slice a1 p.x.length c1, .int .i64 p.a, .bool false] := hY3 ▸ HY2.put 2 _
  clear HY2
  have hYV : Y3 = V3 := by rw [← hV3, hY3]
  have HQ3 : Hid (Bk V3 (w.heap.size + 1 + 1) 47 #[.slice a0 p.e.length c0, .slice a1 p.x.length c1, .int .i64 p.a, .bool false]) := hYV ▸ HY3
  clear HY3 hYV hY3
  have HP3 : Hid (Bk V3 w.heap.size 42 #[u0, u1, .int .i64 p.a, .bool p.f]) := by rw [← hV3]; exact (HP2.out.other 2 _ (by omega))
  have HR3 : Hid (Bk V3 (w.heap.size + 1) 47 #[.slice none 0 0, .slice none 0 0, .int .i64 0, .bool false]) := by rw [← hV3]; exact (HR2.out.other 2 _ (by omega))
  have HT3 : Hid (Turns (fun k => k = (w.heap.size + 1 + 1)) V2 V3) := by rw [← hV3]; exact put1_turns _ _ 2 _
  have hy3 : V2.heap.size ≤ V3.heap.size := HT3.out.size
  have HX3 : Hid (Below w.heap.size w V3) := HX2.out.trans (HT3.out.to_below (fun k e => by omega) (by omega))
  have HO0' : Hid (OwnD V3 (fun k => V0.heap.size ≤ k ∧ k < w1.heap.size) (.slice a0 p.e.length c0) (evsD p.e)) := HO0.out.turns HT3.out (fun k e => by omega)
  clear HO0
  have HO0 := HO0'
  clear HO0'
  have HO1' : Hid (OwnD V3 (fun k => V1.heap.size ≤ k ∧ k < w2.heap.size) (.slice a1 p.x.length c1) (emsD p.x)) := HO1.out.turns HT3.out (fun k e => by omega)
  clear HO1
  have HO1 := HO1'
  clear HO1'
  clear HP2 HR2 HQ2 HX2
  have pp3 := HP3.out.cell (i := 3) rfl
  have qq3 := HQ3.out.cell (i := 3) rfl
  have qf3 := HQ3.out.free
  obtain ⟨V4, hV4⟩ : ∃ V4, (V3.setCell ⟨(w.heap.size + 1 + 1), 3, none⟩ (.bool p.f)) = V4 := ⟨_, rfl⟩
  have HY3 := HQ3.out
  obtain ⟨Y4, hY4⟩ : ∃ Y4, V3.setCell ⟨(w.heap.size + 1 + 1), 3, none⟩ (.bool p.f) = Y4 := ⟨_, rfl⟩
  have HY4 : Bk Y4 (w.heap.size + 1 + 1) 47 #[.slice a0 p.e.length c0, .slice a1 p.x.length c1, .int .i64 p.a, .bool p.f] := hY4 ▸ HY3.put 3 _
  clear HY3
  have hYV : Y4 = V4 := by rw [← hV4, hY4]
  have HQ4 : Hid (Bk V4 (w.heap.size + 1 + 1) 47 #[.slice a0 p.e.length c0, .slice a1 p.x.length c1, .int .i64 p.a, .bool p.f]) := hYV ▸ HY4
  clear HY4 hYV hY4
  have HP4 : Hid (Bk V4 w.heap.size 42 #[u0, u1, .int .i64 p.a, .bool p.f]) := by rw [← hV4]; exact (HP3.out.other 3 _ (by omega))
  have HR4 : Hid (Bk V4 (w.heap.size + 1) 47 #[.slice none 0 0, .slice none 0 0, .int .i64 0, .bool false]) := by rw [← hV4]; exact (HR3.out.other 3 _ (by omega))
  have HT4 : Hid (Turns (fun k => k = (w.heap.size + 1 + 1)) V3 V4) := by rw [← hV4]; exact put1_turns _ _ 3 _
  have hy4 : V3.heap.size ≤ V4.heap.size := HT4.out.size
  have HX4 : Hid (Below w.heap.size w V4) := HX3.out.trans (HT4.out.to_below (fun k e => by omega) (by omega))
  have HO0' : Hid (OwnD V4 (fun k => V0.heap.size ≤ k ∧ k < w1.heap.size) (.slice a0 p.e.length c0) (evsD p.e)) := HO0.out.turns HT4.out (fun k e => by omega)
  clear HO0
  have HO0 := HO0'
  clear HO0'
  have HO1' : Hid (OwnD V4 (fun k => V1.heap.size ≤ k ∧ k < w2.heap.size) (.slice a1 p.x.length c1) (emsD p.x)) := HO1.out.turns HT4.out (fun k e => by omega)
  clear HO1
  have HO1 := HO1'
  clear HO1'
  clear HP3 HR3 HQ3 HX3
  have oo0 := HQ4.out.cell (i := 0) rfl
  have rr0 := HR4.out.cell (i := 0) rfl
  have oo1 := HQ4.out.cell (i := 1) rfl
  have rr1 := HR4.out.cell (i := 1) rfl
  have oo2 := HQ4.out.cell (i := 2) rfl
  have rr2 := HR4.out.cell (i := 2) rfl
  have oo3 := HQ4.out.cell (i := 3) rfl
  have rr3 := HR4.out.cell (i := 3) rfl
  have rf := HR4.out.free
  go_wp2
  clear rf oo0 rr0 oo1 rr1 oo2 rr2 oo3 rr3 qq1 qf1 hV2 pp2 qq2 qf2 hV3 pp3 qq3 qf3 hV4
  have HY0 := HR4.out
  have HU0 : Turns (fun k => k = (w.heap.size + 1)) V4 V4 := Turns.refl _ _
  obtain ⟨Y1, hY1⟩ : ∃ Y1, V4.setCell ⟨(w.heap.size + 1), 0, none⟩ (.slice a0 p.e.length c0) = Y1 := ⟨_, rfl⟩
  have HY1 : Bk Y1 (w.heap.size + 1) 47 #[.slice a0 p.e.length c0, .slice none 0 0, .int .i64 0, .bool false] := hY1 ▸ HY0.put 0 _
  have HU1 : Turns (fun k => k = (w.heap.size + 1)) V4 Y1 := HU0.trans (hY1 ▸ put1_turns _ _ 0 _)
  clear HY0 HU0
  obtain ⟨Y2, hY2⟩ : ∃ Y2, Y1.setCell ⟨(w.heap.size + 1), 1, none⟩ (.slice a1 p.x.length c1) = Y2 := ⟨_, rfl⟩
  have HY2 : Bk Y2 (w.heap.size + 1) 47 #[.slice a0 p.e.length c0, .slice a1 p.x.length c1, .int .i64 0, .bool false] := hY2 ▸ HY1.put 1 _
  have HU2 : Turns (fun k => k = (w.heap.size + 1)) V4 Y2 := HU1.trans (hY2 ▸ put1_turns _ _ 1 _)
  clear HY1 HU1
  obtain ⟨Y3, hY3⟩ : ∃ Y3, Y2.setCell ⟨(w.heap.size + 1), 2, none⟩ (.int .i64 p.a) = Y3 := ⟨_, rfl⟩
  have HY3 : Bk Y3 (w.heap.size + 1) 47 #[.slice a0 p.e.length c0, .slice a1 p.x.length c1, .int .i64 p.a, .bool false] := hY3 ▸ HY2.put 2 _
  have HU3 : Turns (fun k => k = (w.heap.size + 1)) V4 Y3 := HU2.trans (hY3 ▸ put1_turns _ _ 2 _)
  clear HY2 HU2
  obtain ⟨Y4, hY4⟩ : ∃ Y4, Y3.setCell ⟨(w.heap.size + 1), 3, none⟩ (.bool p.f) = Y4 := ⟨_, rfl⟩
  have HY4 : Bk Y4 (w.heap.size + 1) 47 #[.slice a0 p.e.length c0, .slice a1 p.x.length c1, .int .i64 p.a, .bool p.f] := hY4 ▸ HY3.put 3 _
  have HU4 : Turns (fun k => k = (w.heap.size + 1)) V4 Y4 := HU3.trans (hY4 ▸ put1_turns _ _ 3 _)
  clear HY3 HU3
  rw [hY1, hY2, hY3, hY4]
  have hR := HY4
  have hT := HU4
  have t0 := hR.cell (i := 0) rfl
  have t1 := hR.cell (i := 1) rfl
  have t2 := hR.cell (i := 2) rfl
  have t3 := hR.cell (i := 3) rfl
  have hsz := hT.size
  refine bodyPost_ret (v := .agg #[.slice a0 p.e.length c0, .slice a1 p.x.length c1, .int .i64 p.a, .bool p.f]) (by simp [results, Tryd.results16, go_sem, t0, t1, t2, t3]) rfl
    ⟨_, rfl, HX4.out.trans (hT.to_below (fun k e => by omega) (by omega)), _, _, _, _, rfl, HO0.out.turns hT (fun k e => by omega), HO1.out.turns hT (fun k e => by omega), fun k e => ⟨⟨by omega, by omega⟩, by omega⟩, fun k e => ⟨by omega, by omega⟩⟩
end Go.Proofs.YtbcdfacbhemijaaDoor

/- Marks, cell by cell. -/
namespace Go.Proofs.YtbcdfacbhemijaaDoor
open Go.RowKit
/- How many marks the cells ahead of j take. -/
def sumC (f : Nat → Dat) (j : Nat) : Nat := sumL (fun i => (f i).cnt) j
/- As far as m cells a row bears the marks from z on. -/
def mkD (f : Nat → Dat) (z : Int) (m : Nat) : Nat → Dat := fun j => if j < m then (f j).mark (z + (sumC f j : Int)) else f j
theorem upd_mkD (f : Nat → Dat) (z : Int) (m : Nat) : upd (mkD f z m) m ((f m).mark (z + (sumC f m : Int))) = mkD f z (m + 1) := by
  funext j
  simp only [upd, mkD]
  by_cases e : j = m
  · subst e; rw [if_pos rfl, if_pos (by omega)]
  · rw [if_neg e]
    by_cases e2 : j < m
    · rw [if_pos e2, if_pos (by omega)]
    · rw [if_neg e2, if_neg (by omega)]
theorem OwnD.mk0 {F : Nat → Prop} {w : World} {x : Value} {c n : Nat} {f : Nat → Dat} (z : Int) (h : OwnD w F x (.row c n f)) : OwnD w F x (.row c n (mkD f z (0 * c))) :=
  h.congr (fun j _ => by simp [mkD])
theorem OwnD.mkAll {F : Nat → Prop} {w : World} {x : Value} {c n : Nat} {f : Nat → Dat} {z : Int} (h : OwnD w F x (.row c n (mkD f z (n * c)))) : OwnD w F x ((Dat.row c n f).mark z) :=
  OwnD.congr (f' := fun j => (f j).mark (z + (sumL (fun i => (f i).cnt) j : Int))) h (fun j hj => by simp only [mkD]; rw [if_pos hj]; rfl)
theorem OwnD.mk_val {F : Nat → Prop} {w : World} {g n cap c m : Nat} {f : Nat → Dat} {z : Int} (h : OwnD w F (.slice (some ⟨g, 0, none⟩) n cap) (.row c n (mkD f z m))) (hm : m < n * c) {u v : Value} (hv : f m = .val v) (hu : u = mark1 v (z + (sumC f m : Int))) :
    OwnD (w.setCell ⟨g, m, none⟩ u) F (.slice (some ⟨g, 0, none⟩) n cap) (.row c n (mkD f z (m + 1))) := by
  have := h.put_val hm u
  rw [← upd_mkD, hv]
  rw [hu] at this ⊢
  exact this
theorem OwnD.mk_row {F : Nat → Prop} {w : World} {g n cap c m : Nat} {f : Nat → Dat} {z : Int} (h : OwnD w F (.slice (some ⟨g, 0, none⟩) n cap) (.row c n (mkD f z m))) (hm : m < n * c) :
    ∃ u K, w.cell? ⟨g, m, none⟩ = some u ∧ OwnD w K u (f m) ∧ (∀ k, K k → F k) ∧ ∀ w', OwnD w' K u ((f m).mark (z + (sumC f m : Int))) → Turns K w w' → OwnD w' F (.slice (some ⟨g, 0, none⟩) n cap) (.row c n (mkD f z (m + 1))) := by
  obtain ⟨u, K, h1, _, h3, h4, h5⟩ := h.step hm
  refine ⟨u, K, h1, ?_, fun k hk => (h4 k hk).1, fun w' hw ht => ?_⟩
  · have e : mkD f z m m = f m := by simp [mkD]
    rw [e] at h3; exact h3
  · have := h5 w' _ hw ht
    rw [upd_mkD] at this; exact this
/- What a marked row holds, cell by cell. -/
theorem OwnD.marked {F : Nat → Prop} {w : World} {g n cap c : Nat} {f : Nat → Dat} {z : Int} (h : OwnD w F (.slice (some ⟨g, 0, none⟩) n cap) ((Dat.row c n f).mark z)) {j : Nat} (hj : j < n * c) :
    ∃ u K, w.cell? ⟨g, j, none⟩ = some u ∧ OwnD w K u ((f j).mark (z + (sumC f j : Int))) := by
  obtain ⟨u, K, h1, _, h3, _⟩ := OwnD.step (f := fun j => (f j).mark (z + (sumL (fun i => (f i).cnt) j : Int))) h hj
  exact ⟨u, K, h1, h3⟩
theorem OwnD.marked_val {F : Nat → Prop} {w : World} {g n cap c : Nat} {f : Nat → Dat} {z : Int} (h : OwnD w F (.slice (some ⟨g, 0, none⟩) n cap) ((Dat.row c n f).mark z)) {j : Nat} (hj : j < n * c) {v u : Value} (hv : f j = .val v) (hu : u = mark1 v (z + (sumC f j : Int))) :
    w.cell? ⟨g, j, none⟩ = some u := by
  obtain ⟨u', K, h1, h2⟩ := h.marked hj
  rw [hv] at h2
  rw [h1, h2.isD.val_eq, hu]
theorem OwnD.mslice {F : Nat → Prop} {w : World} {x : Value} {n c : Nat} {f : Nat → Dat} {z : Int} (h : OwnD w F x ((Dat.row c n f).mark z)) : ∃ a cap, x = .slice a n cap ∧ n ≤ maxLen ∧ (n = 0 ∨ ∃ g, a = some ⟨g, 0, none⟩) := by
  obtain ⟨a, cap, e, h1, h2, h⟩ := OwnD.parts (f := fun j => (f j).mark (z + (sumL (fun i => (f i).cnt) j : Int))) h
  exact ⟨a, cap, e, Nat.le_trans h1 h2, h.imp id (fun ⟨g, e, _⟩ => ⟨g, e⟩)⟩
theorem sumC_le {c n : Nat} {f : Nat → Dat} {j : Nat} (h : j ≤ n * c) : sumC f j ≤ (Dat.row c n f).cnt := sumL_mono _ h
theorem sumC_succ (f : Nat → Dat) (j : Nat) : sumC f (j + 1) = sumC f j + (f j).cnt := rfl
end Go.Proofs.YtbcdfacbhemijaaDoor

/- markHistory. -/
namespace Go.Proofs.YtbcdfacbhemijaaDoor
open Go.RowKit
/- The struct whose rows bear the marks from z on. -/
def HeldHistory (F : Nat → Prop) (w : World) (y : Value) (p : Hy) (z : Int) : Prop :=
  ∃ (A0 A1 : Nat → Prop) (u0 u1 : Value), y = .agg #[u0, u1, .int .i64 p.a, .bool p.f] ∧ OwnD w A0 u0 ((evsD p.e).mark (z)) ∧ OwnD w A1 u1 ((emsD p.x).mark (z + ((evsD p.e).cnt : Int))) ∧ (∀ k, A0 k → F k ∧ ¬ A1 k) ∧ (∀ k, A1 k → F k)
theorem HeldHistory.turns {F S : Nat → Prop} {w w' : World} {y : Value} {p : Hy} {z : Int} (h : HeldHistory F w y p z) (ht : Turns S w w') (hS : ∀ k, F k → ¬ S k) : HeldHistory F w' y p z := by
  obtain ⟨A0, A1, u0, u1, rfl, h0, h1, d0, d1⟩ := h
  exact ⟨A0, A1, u0, u1, rfl, h0.turns ht (fun k hk => hS k (d0 k hk).1), h1.turns ht (fun k hk => hS k (d1 k hk)), d0, d1⟩
theorem HeldHistory.under {F : Nat → Prop} {w w' : World} {y : Value} {p : Hy} {z : Int} (h : HeldHistory F w y p z) (hb : Below w.heap.size w w') : HeldHistory F w' y p z :=
  h.turns (S := fun _ => False) (Turns.of_below hb) (fun _ _ => id)
def Hy.cntA (p : Hy) : Nat := (evsD p.e).cnt + (emsD p.x).cnt
theorem Hy.cntA_le (p : Hy) : p.cntA ≤ 40 * p.wt := by
  have t0 := Dat.cnt_le (evs_thin p.e)
  have t1 := Dat.cnt_le (ems_thin p.x)
  have t0 : (evsD p.e).cnt ≤ 40 * (evsD p.e).wt := t0
  have t1 : (emsD p.x).cnt ≤ 40 * (emsD p.x).wt := t1
  unfold Hy.cntA Hy.wt
  omega
set_option maxRecDepth 100000 in
set_option maxHeartbeats 8000000 in
theorem markHistory_any {F : Nat → Prop} {x : Value} {p : Hy} {w : World} (z : Int) (hn : p.wt ≤ 1048577) (hz0 : 0 ≤ z) (hz1 : z + (p.cntA : Int) ≤ 1073741824) (h : HistoryF F w x p) :
    Calls Tryd.prog 19 #[x, .int .i64 z] w fun e w' => e = .returned (.int .i64 (z + (p.cntA : Int))) ∧ HeldHistory F w' x p z ∧ Turns F w w' := by
  obtain ⟨A0, A1, u0, u1, rfl, h0, h1, d0, d1⟩ := h
  have HN : Hid (p.wt ≤ 1048577) := hn
  have hc : p.cntA = (evsD p.e).cnt + (emsD p.x).cnt := rfl
  rw [hc] at hz1 ⊢
  have HZ : Hid (z + (((evsD p.e).cnt + (emsD p.x).cnt : Nat) : Int) ≤ 1073741824) := hz1
  have hwt := hn
  unfold Hy.wt at hwt
  simp only [ems_wt, evs_wt] at hwt
  have O0 : Hid (OwnD w (fun k => A0 k ∧ k < w.heap.size) u0 (evsD p.e)) := h0.live
  have D0 : Hid (∀ k, A0 k → F k ∧ ¬ A1 k) := d0
  have O1 : Hid (OwnD w (fun k => A1 k ∧ k < w.heap.size) u1 (emsD p.x)) := h1.live
  have D1 : Hid (∀ k, A1 k → F k) := d1
  clear hn hz1 hc h0 d0 h1 d1
  obtain ⟨W0, hW0⟩ : ∃ W0, w.alloc (.cells #[u0, u1, .int .i64 p.a, .bool p.f] 47) = W0 := ⟨_, rfl⟩
  have HB0 : Hid (Below w.heap.size w W0) := by rw [← hW0]; exact (Below.refl _ w).alloc (Nat.le_refl _) _
  have HP0 : Hid (Bk W0 w.heap.size 47 #[u0, u1, .int .i64 p.a, .bool p.f]) := by rw [← hW0]; exact Bk.new w _ _
  have HT0 : Hid (Turns F w W0) := Turns.of_below HB0.out
  have HW : Hid (w.alloc (.cells #[u0, u1, .int .i64 p.a, .bool p.f] 47) = W0) := hW0
  clear hW0
  have O0' : Hid (OwnD W0 (fun k => A0 k ∧ k < w.heap.size) u0 (evsD p.e)) := O0.out.under HB0.out
  clear O0
  have O0 := O0'
  clear O0'
  have O1' : Hid (OwnD W0 (fun k => A1 k ∧ k < w.heap.size) u1 (emsD p.x)) := O1.out.under HB0.out
  clear O1
  have O1 := O1'
  clear O1'
  go_enter Tryd.func19, Tryd.ntmps19
  have p0 := HP0.out.cell (i := 0) rfl
  have b0 : z ≤ 1073741824 := by have := HZ.out; omega
  go_wp2_with fail
  rw [HW.out]
  clear HW
  clear p0
  refine (mark_evs (F := fun k => A0 k ∧ k < w.heap.size) (l := p.e) z (by omega) hz0 b0 O0.out).mono ?_
  rintro e w1 ⟨rfl, hr, ht⟩
  have M0 : Hid (OwnD w1 (fun k => A0 k ∧ k < w.heap.size) u0 ((evsD p.e).mark z)) := hr
  have HP1 : Hid (Bk w1 w.heap.size 47 #[u0, u1, .int .i64 p.a, .bool p.f]) := HP0.out.turns ht (fun e => by omega)
  have HT1 : Hid (Turns F w w1) := HT0.out.trans (ht.mono (fun k e => (D0.out k e.1).1))
  have O1' : Hid (OwnD w1 (fun k => A1 k ∧ k < w.heap.size) u1 (emsD p.x)) := O1.out.turns ht (fun k e e' => (D0.out k e'.1).2 e.1)
  clear O1
  have O1 := O1'
  clear O1'
  clear hr ht
  obtain ⟨y1, hy⟩ : ∃ y1 : Int, y1 = z + ((evsD p.e).cnt : Int) := ⟨_, rfl⟩
  have HY1 : Hid (y1 = z + ((evsD p.e).cnt : Int)) := by exact hy
  have y10 : 0 ≤ y1 := by omega
  rw [← hy]
  clear hy
  have p1 := HP1.out.cell (i := 1) rfl
  have b1 : y1 ≤ 1073741824 := by have := HZ.out; have := HY1.out; omega
  go_wp2_with fail
  clear p1
  refine (mark_ems (F := fun k => A1 k ∧ k < w.heap.size) (l := p.x) y1 (by omega) y10 b1 O1.out).mono ?_
  rintro e w2 ⟨rfl, hr, ht⟩
  have M1 : Hid (OwnD w2 (fun k => A1 k ∧ k < w.heap.size) u1 ((emsD p.x).mark y1)) := hr
  have HP2 : Hid (Bk w2 w.heap.size 47 #[u0, u1, .int .i64 p.a, .bool p.f]) := HP1.out.turns ht (fun e => by omega)
  have HT2 : Hid (Turns F w w2) := HT1.out.trans (ht.mono (fun k e => (D1.out k e.1)))
  have M0' : Hid (OwnD w2 (fun k => A0 k ∧ k < w.heap.size) u0 ((evsD p.e).mark z)) := M0.out.turns ht (fun k e e' => (D0.out k e.1).2 e'.1)
  clear M0
  have M0 := M0'
  clear M0'
  clear hr ht
  obtain ⟨y2, hy⟩ : ∃ y2 : Int, y2 = y1 + ((emsD p.x).cnt : Int) := ⟨_, rfl⟩
  have HY2 : Hid (y2 = z + ((evsD p.e).cnt : Int) + ((emsD p.x).cnt : Int)) := by have := HY1.out; show y2 = _; omega
  have y20 : 0 ≤ y2 := by omega
  rw [← hy]
  clear hy
  go_wp2
  go_ret
  refine ⟨ret_int (by have := HY2.out; omega), ⟨(fun k => A0 k ∧ k < w.heap.size), (fun k => A1 k ∧ k < w.heap.size), _, _, rfl, M0.out, (by rw [← HY1.out]; exact M1.out), fun k e => ⟨(D0.out k e.1).1, fun e' => (D0.out k e.1).2 e'.1⟩, fun k e => D1.out k e.1⟩, HT2.out⟩
end Go.Proofs.YtbcdfacbhemijaaDoor

/- Rows of numbers: what stays where another row turns. -/
namespace Go.Proofs.YtbcdfacbhemijaaDoor
open Go.RowKit
/- As IsI, in a block below B. -/
def LowI (B : Nat) (w : World) (x : Value) (l : List Int) : Prop := ∃ a cap, x = .slice a l.length cap ∧ l.length ≤ cap ∧ cap ≤ maxLen ∧ (l = [] ∨ ∃ b off, a = some ⟨b, off, none⟩ ∧ b < B ∧ IntsAt w b off l)
theorem LowI.isI {B : Nat} {w : World} {x : Value} {l : List Int} (h : LowI B w x l) : IsI w x l := by
  obtain ⟨a, cap, rfl, h1, h2, h⟩ := h
  exact ⟨a, cap, rfl, h1, h2, h.imp id (fun ⟨b, off, e, _, h⟩ => ⟨b, off, e, h⟩)⟩
theorem IsI.low {w : World} {x : Value} {l : List Int} (h : IsI w x l) : LowI w.heap.size w x l := by
  obtain ⟨a, cap, rfl, h1, h2, h⟩ := h
  exact ⟨a, cap, rfl, h1, h2, h.imp id (fun ⟨b, off, e, h⟩ => ⟨b, off, e, h.1, h⟩)⟩
theorem LowI.below {B : Nat} {w w' : World} {x : Value} {l : List Int} (h : LowI B w x l) (hb : Below B w w') : LowI B w' x l := by
  obtain ⟨a, cap, rfl, h1, h2, h⟩ := h
  exact ⟨a, cap, rfl, h1, h2, h.imp id (fun ⟨b, off, e, hB, h⟩ => ⟨b, off, e, hB, h.below hb hB⟩)⟩
theorem OwnI.other {B g : Nat} {w w' : World} {x : Value} {l : List Int} (h : OwnI B w x l) (hg : g < B) (hgr : w.grownBy w' (some g)) : OwnI B w' x l := by
  obtain ⟨a, cap, rfl, h1, h2, h⟩ := h
  refine ⟨a, cap, rfl, h1, h2, h.imp id ?_⟩
  rintro ⟨b, rfl, hB, hf, hr⟩
  have hk : w'.heap[b]? = w.heap[b]? := hgr.block b hr.1 (by intro e; have := Option.some.inj e; omega)
  have hc : ∀ o, w'.cell? ⟨b, o, none⟩ = w.cell? ⟨b, o, none⟩ := fun o => World.cell?_of_block (w := w) hk
  have hz : ∀ o, w'.frozen? ⟨b, o, none⟩ = w.frozen? ⟨b, o, none⟩ := fun o => World.frozen?_of_block (w := w) hk
  exact ⟨b, rfl, hB, fun j hj => (hz j).trans (hf j hj), Nat.lt_of_lt_of_le hr.1 hgr.size, fun i hi => (hc _).trans (hr.2 i hi)⟩
/- An answer: a list of one's own and a flag. -/
def AnsI (B : Nat) (r : List Int) (b : Bool) (e : Ending) (w' : World) : Prop := ∃ v, e = .returned (.tuple #[v, .bool b]) ∧ OwnI B w' v r
end Go.Proofs.YtbcdfacbhemijaaDoor

/- Rows of numbers: eqByteS where both sides are the same, markByteS, heldByteS. -/
namespace Go.Proofs.YtbcdfacbhemijaaDoor.By
open Go.RowKit Go.Proofs.YtbcdfacbhemijaaDoor
def intAt (l : List UInt8) (i : Nat) : UInt8 := l.getD i 0
def intCells (l : List UInt8) : List Value := l.map (fun z => Value.int .u8 (z.toNat : Int))
/- The bytes of l lie in block b from off on. -/
def IntsAt (w : World) (b off : Nat) (l : List UInt8) : Prop := b < w.heap.size ∧ ∀ i, i < l.length → w.cell? ⟨b, off + i, none⟩ = some (.int .u8 ((intAt l i).toNat : Int))
def IsI (w : World) (x : Value) (l : List UInt8) : Prop := ∃ a cap, x = .slice a l.length cap ∧ l.length ≤ cap ∧ cap ≤ maxLen ∧ (l = [] ∨ ∃ b off, a = some ⟨b, off, none⟩ ∧ IntsAt w b off l)
theorem IntsAt.below {w w' : World} {B b off : Nat} {l : List UInt8} (h : IntsAt w b off l) (hb : Below B w w') (hB : b < B) : IntsAt w' b off l :=
  ⟨Nat.lt_of_lt_of_le h.1 hb.size, fun i hi => (hb.cell hB).trans (h.2 i hi)⟩
theorem IsI.below {w w' : World} {x : Value} {l : List UInt8} (h : IsI w x l) (hb : Below w.heap.size w w') : IsI w' x l := by
  obtain ⟨a, cap, rfl, h1, h2, h⟩ := h
  exact ⟨a, cap, rfl, h1, h2, h.imp id (fun ⟨b, off, e, h⟩ => ⟨b, off, e, h.below hb h.1⟩)⟩
/- The block g holds n cells that may be written; the first k of them hold the marks. -/
def MarkTo (w : World) (g n k : Nat) : Prop := g < w.heap.size ∧ (∀ j, j < n → (w.cell? ⟨g, j, none⟩).isSome = true ∧ w.frozen? ⟨g, j, none⟩ = false) ∧ ∀ i, i < k → w.cell? ⟨g, i, none⟩ = some (.int .u8 (((i : Int) + 1) % 256))
theorem MarkTo.below {w w' : World} {B g n k : Nat} (h : MarkTo w g n k) (hb : Below B w w') (hB : g < B) : MarkTo w' g n k :=
  ⟨Nat.lt_of_lt_of_le h.1 hb.size, fun j hj => by rw [hb.cell (p := ⟨g, j, none⟩) hB, hb.frozen (p := ⟨g, j, none⟩) hB]; exact h.2.1 j hj, fun i hi => (hb.cell hB).trans (h.2.2 i hi)⟩
theorem MarkTo.put {w : World} {g n k : Nat} (h : MarkTo w g n k) (hk : k < n) : MarkTo (w.setCell ⟨g, k, none⟩ (.int .u8 (((k : Int) + 1) % 256))) g n (k + 1) := by
  have e1 : w.setCell ⟨g, k, none⟩ (.int .u8 (((k : Int) + 1) % 256)) = w.setCells g k [.int .u8 (((k : Int) + 1) % 256)] := rfl
  have hsame : ∀ j, j ≠ k → (w.setCell ⟨g, k, none⟩ (.int .u8 (((k : Int) + 1) % 256))).cell? ⟨g, j, none⟩ = w.cell? ⟨g, j, none⟩ := fun j hj => by
    rw [e1]
    exact World.cell?_setCells_out g _ k w ⟨g, j, none⟩ (fun _ _ => by simp; omega)
  have hat : (w.setCell ⟨g, k, none⟩ (.int .u8 (((k : Int) + 1) % 256))).cell? ⟨g, k, none⟩ = some (.int .u8 (((k : Int) + 1) % 256)) := by
    rw [e1]
    have h0 := World.cell?_setCells_in g [.int .u8 (((k : Int) + 1) % 256)] k w (fun j hj => by
      obtain rfl : j = 0 := by simpa using hj
      exact (h.2.1 k hk).1) 0 (by simp)
    simpa using h0
  refine ⟨by simpa using h.1, fun j hj => ?_, fun i hi => ?_⟩
  · refine ⟨?_, ?_⟩
    · by_cases e : j = k
      · subst e; rw [hat]; rfl
      · rw [hsame j e]; exact (h.2.1 j hj).1
    · rw [e1, World.frozen?_setCells]; exact (h.2.1 j hj).2
  · by_cases e : i = k
    · subst e; exact hat
    · rw [hsame i e]; exact h.2.2 i (by omega)
theorem grown_refl (w : World) (row : Option Nat) : w.grownBy w row := ⟨rfl, rfl, rfl, Nat.le_refl _, fun _ _ _ => rfl⟩
theorem grown_trans {w w' w'' : World} {row : Option Nat} (h : w.grownBy w' row) (h' : w'.grownBy w'' row) : w.grownBy w'' row :=
  ⟨h'.os.trans h.os, h'.tape.trans h.tape, h'.output.trans h.output, Nat.le_trans h.size h'.size, fun k hk hr => (h'.block k (Nat.lt_of_lt_of_le hk h.size) hr).trans (h.block k hk hr)⟩
theorem setCell_grown (w : World) (g o : Nat) (v : Value) : w.grownBy (w.setCell ⟨g, o, none⟩ v) (some g) := by
  refine ⟨?_, ?_, ?_, by simp, fun k _ hk => Below.heap_setCell _ _ _ _ (fun e => hk (by rw [e]))⟩
  all_goals (unfold World.setCell; rfl)

set_option maxHeartbeats 2000000 in
theorem eqI_same (x y : Value) (l : List UInt8) (w : World) (hl : l.length ≤ 4611686018427387904) (hx : IsI w x l) (hy : IsI w y l) :
    Calls Tryd.prog 9 #[x, y] w fun e w' => e = .returned (.bool true) ∧ Below w.heap.size w w' := by
  obtain ⟨a, cap, rfl, h1, h2, h⟩ := hx
  obtain ⟨a', cap', rfl, h1', h2', h'⟩ := hy
  clear h1 h2 h1' h2'
  by_cases hz : l = []
  · subst hz
    clear h h'
    go_enter Tryd.func9, Tryd.ntmps9
    go_wp2
    go_loop [5] (fun i => i = .int .i64 0) (fun _ => 0)
    case atStart => rfl
    case round =>
      subst hrel
      go_wp2
      go_ret
      exact ⟨rfl, Below.refl _ _⟩
  · obtain ⟨b, off, rfl, hb, hc⟩ := h.resolve_left hz
    obtain ⟨b', off', rfl, hb', hc'⟩ := h'.resolve_left hz
    clear h h' hz
    go_enter Tryd.func9, Tryd.ntmps9
    go_wp2
    go_loopw [5] (fun i wr => ∃ k : Nat, k ≤ l.length ∧ i = .int .i64 k ∧ Below w.heap.size w wr) (fun i _ => l.length - (intOf i).toNat)
    case atStart => exact ⟨0, Nat.zero_le _, rfl, Below.refl _ _⟩
    case round =>
      obtain ⟨k, hk, rfl, hB⟩ := hrel
      have HB : Hid (Below w.heap.size w wr) := hB
      by_cases hlt : k < l.length
      · have f0 := (hB.cell (p := ⟨b, off + k, none⟩) hb).trans (hc k hlt)
        have e0 := (hB.cell (p := ⟨b', off' + k, none⟩) hb').trans (hc' k hlt)
        generalize ((intAt l k).toNat : Int) = z at f0 e0
        clear hB hc hc'
        go_wp2_with fail
        go_region_held3 (fun W => W.cell? ⟨b, off + k, none⟩ = some (.int .u8 z) ∧ W.cell? ⟨b', off' + k, none⟩ = some (.int .u8 z)) ((repeat' apply And.intro) <;> go_keep) (fail)
        go_wp2
        go_roundw
        case rel => exact ⟨k + 1, by omega, by go_num, HB.out.drew⟩
        case measure => simp [intOf]; omega
      · clear hB hc hc'
        go_wp2
        go_ret
        exact ⟨rfl, HB.out⟩

set_option maxHeartbeats 2000000 in
theorem markI_any (g n cap : Nat) (w : World) (hn : n ≤ 4611686018427387904) (hR : MarkTo w g n 0) :
    Calls Tryd.prog 12 #[.slice (some ⟨g, 0, none⟩) n cap, .int .i64 1] w fun e w' => e = .returned (.int .i64 ((n : Int) + 1)) ∧ MarkTo w' g n n ∧ w.grownBy w' (some g) := by
  have HR0 : Hid (MarkTo w g n 0) := hR
  clear hR
  go_enter Tryd.func12, Tryd.ntmps12
  go_wp2
  go_loopw [5, 1] (fun i z wr => ∃ k : Nat, k ≤ n ∧ i = .int .i64 k ∧ z = .int .i64 ((k : Int) + 1) ∧ MarkTo wr g n k ∧ w.grownBy wr (some g)) (fun i _ _ => n - (intOf i).toNat)
  case atStart => exact ⟨0, Nat.zero_le _, rfl, rfl, HR0.out, grown_refl _ _⟩
  case round =>
    obtain ⟨k, hk, rfl, rfl, hR, hg⟩ := hrel
    have HR : Hid (MarkTo wr g n k) := hR
    have HG : Hid (w.grownBy wr (some g)) := hg
    clear hR hg
    by_cases hlt : k < n
    · obtain ⟨v, hv⟩ := Option.isSome_iff_exists.1 (HR.out.2.1 k hlt).1
      have hf := (HR.out.2.1 k hlt).2
      go_wp2
      go_roundw
      case rel => exact ⟨k + 1, by omega, by go_num, by go_num, HR.out.put hlt, grown_trans HG.out (setCell_grown _ _ _ _)⟩
      case measure => simp [intOf]; omega
    · go_wp2
      go_ret
      obtain rfl : k = n := by omega
      exact ⟨rfl, HR.out, HG.out⟩

set_option maxHeartbeats 2000000 in
theorem heldI_any (g n cap : Nat) (w : World) (hn : n ≤ 4611686018427387904) (hR : MarkTo w g n n) :
    Calls Tryd.prog 13 #[.slice (some ⟨g, 0, none⟩) n cap, .int .i64 1] w fun e w' => e = .returned (.int .i64 ((n : Int) + 1)) ∧ w' = w := by
  have HR : Hid (MarkTo w g n n) := hR
  clear hR
  go_enter Tryd.func13, Tryd.ntmps13
  go_wp2
  go_loop [5, 1] (fun i z => ∃ k : Nat, k ≤ n ∧ i = .int .i64 k ∧ z = .int .i64 ((k : Int) + 1)) (fun i _ => n - (intOf i).toNat)
  case atStart => exact ⟨0, Nat.zero_le _, rfl, rfl⟩
  case round =>
    obtain ⟨k, hk, rfl, rfl⟩ := hrel
    by_cases hlt : k < n
    · have hev := HR.out.2.2 k hlt
      go_wp2
      go_round
      case rel => exact ⟨k + 1, by omega, by go_num, by go_num⟩
      case measure => simp [intOf]; omega
    · go_wp2
      go_ret
      obtain rfl : k = n := by omega
      exact ⟨rfl, rfl⟩

set_option maxHeartbeats 1000000 in
theorem markI_nil (a : Option Addr) (cap : Nat) (w : World) : Calls Tryd.prog 12 #[.slice a 0 cap, .int .i64 1] w fun e w' => e = .returned (.int .i64 1) ∧ w' = w := by
  go_enter Tryd.func12, Tryd.ntmps12
  go_wp2
  go_loop [5, 1] (fun i z => i = .int .i64 0 ∧ z = .int .i64 1) (fun _ _ => 0)
  case atStart => exact ⟨rfl, rfl⟩
  case round =>
    obtain ⟨rfl, rfl⟩ := hrel
    go_wp2
    go_ret
    exact ⟨rfl, rfl⟩
set_option maxHeartbeats 1000000 in
theorem heldI_nil (a : Option Addr) (cap : Nat) (w : World) : Calls Tryd.prog 13 #[.slice a 0 cap, .int .i64 1] w fun e w' => e = .returned (.int .i64 1) ∧ w' = w := by
  go_enter Tryd.func13, Tryd.ntmps13
  go_wp2
  go_loop [5, 1] (fun i z => i = .int .i64 0 ∧ z = .int .i64 1) (fun _ _ => 0)
  case atStart => exact ⟨rfl, rfl⟩
  case round =>
    obtain ⟨rfl, rfl⟩ := hrel
    go_wp2
    go_ret
    exact ⟨rfl, rfl⟩

/- A slice over the bytes l, in a block of its own from B on, all of whose cells may be written. -/
def OwnI (B : Nat) (w : World) (x : Value) (l : List UInt8) : Prop := ∃ a cap, x = .slice a l.length cap ∧ l.length ≤ cap ∧ cap ≤ maxLen ∧ (l = [] ∨ ∃ g, a = some ⟨g, 0, none⟩ ∧ B ≤ g ∧ (∀ j, j < l.length → w.frozen? ⟨g, j, none⟩ = false) ∧ IntsAt w g 0 l)
theorem OwnI.nil (B : Nat) (w : World) : OwnI B w (.slice none 0 0) [] := ⟨none, 0, rfl, Nat.le_refl _, Nat.zero_le _, .inl rfl⟩
theorem OwnI.isI {B : Nat} {w : World} {x : Value} {l : List UInt8} (h : OwnI B w x l) : IsI w x l := by
  obtain ⟨a, cap, rfl, h1, h2, h⟩ := h
  exact ⟨a, cap, rfl, h1, h2, h.imp id (fun ⟨g, e, _, _, hr⟩ => ⟨g, 0, e, hr⟩)⟩
theorem OwnI.below {B : Nat} {w w' : World} {x : Value} {l : List UInt8} (h : OwnI B w x l) (hb : Below w.heap.size w w') : OwnI B w' x l := by
  obtain ⟨a, cap, rfl, h1, h2, h⟩ := h
  exact ⟨a, cap, rfl, h1, h2, h.imp id (fun ⟨g, e, hg, hf, hr⟩ => ⟨g, e, hg, fun j hj => (hb.frozen (p := ⟨g, j, none⟩) hr.1).trans (hf j hj), hr.below hb hr.1⟩)⟩
theorem OwnI.mono {B B' : Nat} {w : World} {x : Value} {l : List UInt8} (h : OwnI B w x l) (hb : B' ≤ B) : OwnI B' w x l := by
  obtain ⟨a, cap, rfl, h1, h2, h⟩ := h
  exact ⟨a, cap, rfl, h1, h2, h.imp id (fun ⟨g, e, hg, hr⟩ => ⟨g, e, Nat.le_trans hb hg, hr⟩)⟩
theorem OwnI.of_row {B : Nat} {w : World} {x : Value} {l : List UInt8} (h : w.ownsRow B 5 1 x l.length (intCells l)) : OwnI B w x l := by
  obtain ⟨hl, ⟨rfl, h0⟩ | ⟨g, cap, cur, rfl, hg, hc, h1, h2, h3, h4⟩⟩ := h
  · exact ⟨none, 0, by rw [h0], by omega, by unfold maxLen; omega, .inl (List.eq_nil_of_length_eq_zero h0)⟩
  · refine ⟨_, cap, rfl, h1, h2, .inr ⟨g, rfl, hg, fun j hj => ?_, (Array.getElem?_eq_some_iff.1 hc).1, fun i hi => ?_⟩⟩
    · have hj2 : j < cur.size := by omega
      simp [World.frozen?, hc]
    · have e1 : w.cell? ⟨g, i, none⟩ = (intCells l)[i]? := by
        rw [← h4, List.getElem?_take_of_lt (by omega)]
        simp [World.cell?, hc]
      rw [Nat.zero_add, e1]
      simp [intCells, intAt, hi]
/- At most one row, at or above B, has turned. -/
def Turned (B : Nat) (w w' : World) : Prop := w' = w ∨ ∃ g, B ≤ g ∧ w.grownBy w' (some g)
theorem Turned.below {B : Nat} {w w' : World} (h : Turned B w w') (hB : B ≤ w.heap.size) : Below B w w' := by
  rcases h with rfl | ⟨g, hg, h⟩
  · exact Below.refl _ _
  · exact (Below.refl B w).grown h hB (fun k e => by cases e; exact hg)
def HeldI (w : World) (x : Value) (m : Int) : Prop := ∃ a n cap, x = .slice a n cap ∧ m = ((n : Nat) : Int) + 1 ∧ n ≤ 4611686018427387904 ∧ (n = 0 ∨ ∃ g, a = some ⟨g, 0, none⟩ ∧ MarkTo w g n n)
theorem HeldI.below {w w' : World} {x : Value} {m : Int} (h : HeldI w x m) (hb : Below w.heap.size w w') : HeldI w' x m := by
  obtain ⟨a, n, cap, h1, h2, h3, h4⟩ := h
  exact ⟨a, n, cap, h1, h2, h3, h4.imp id (fun ⟨g, e, hr⟩ => ⟨g, e, hr.below hb hr.1⟩)⟩
theorem heldI_in {w : World} {x : Value} {m : Int} (h : HeldI w x m) : Calls Tryd.prog 13 #[x, .int .i64 1] w fun e w' => e = .returned (.int .i64 m) ∧ w' = w := by
  obtain ⟨a, n, cap, rfl, rfl, hn, rfl | ⟨g, rfl, hr⟩⟩ := h
  · exact heldI_nil a cap w
  · exact heldI_any g n cap w hn hr
theorem markI_own {B : Nat} {w : World} {x : Value} {l : List UInt8} (h : OwnI B w x l) (hl : l.length ≤ 4611686018427387904) :
    Calls Tryd.prog 12 #[x, .int .i64 1] w fun e w' => ∃ m : Int, 1 ≤ m ∧ e = .returned (.int .i64 m) ∧ HeldI w' x m ∧ Turned B w w' := by
  obtain ⟨a, cap, rfl, h1, h2, h⟩ := h
  by_cases h0 : l = []
  · subst h0
    refine (markI_nil a cap w).mono ?_
    rintro e w' ⟨rfl, rfl⟩
    exact ⟨1, by omega, rfl, ⟨a, 0, cap, rfl, by simp, by omega, .inl rfl⟩, .inl rfl⟩
  · obtain ⟨g, rfl, hg, hf, hr⟩ := h.resolve_left h0
    refine (markI_any g l.length cap w hl ⟨hr.1, fun j hj => ⟨by have := hr.2 j hj; rw [Nat.zero_add] at this; rw [this]; rfl, hf j hj⟩, fun i hi => by omega⟩).mono ?_
    rintro e w' ⟨rfl, hr', hgr⟩
    exact ⟨_, by omega, rfl, ⟨_, l.length, cap, rfl, rfl, hl, .inr ⟨g, rfl, hr'⟩⟩, .inr ⟨g, hg, hgr⟩⟩
end Go.Proofs.YtbcdfacbhemijaaDoor.By

