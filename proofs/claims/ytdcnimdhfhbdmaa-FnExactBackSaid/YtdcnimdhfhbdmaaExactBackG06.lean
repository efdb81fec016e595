/- TPsA, TPsB, TPtA -/
import Derived.Test.YtdcnimdhfhbdmaaExactBackG05
import Derived.Deep.RegionHeld3
/- szPast, szPastS: how much there is; eqPast: two alike. -/
namespace Go.Proofs.Ytdcnimdhfhbdmaa
open Go.RowKit
set_option maxHeartbeats 4000000 in
theorem szPast_any (x : Value) (p : Ps) (left : Int) (w : World) (h0 : 0 ≤ left) (h1 : left ≤ 1048576) (h : IsPast w x p) :
  Calls Try.prog 55 #[x, .int .i64 left] w fun e w' => (∃ r, e = .returned (.int .i64 r) ∧ SzR p.wt left r) ∧ Below w.heap.size w w' := by
 obtain ⟨u7, u10, u11, rfl, h7, h10, h11⟩ := h
 have H7 : Hid (IsD w u7 (intsD p.b.r)) := h7
 have H10 : Hid (IsD w u10 (evsD p.s)) := h10
 have H11 : Hid (IsD w u11 (emsD p.x)) := h11
 clear h7 h10 h11
 obtain ⟨W0, hW0⟩ : ∃ W0, w.alloc (.cells #[.int .i64 p.e.t, .int .i64 p.e.s, .int .i64 p.e.q, .int .i64 p.e.d, .int .i64 p.e.k, .int .i64 p.e.v, .int .i64 p.e.g, u7, .int .i64 p.b.q, .int .i64 p.b.d, u10, u11] 84) = W0 := ⟨_, rfl⟩
 have HB0 : Hid (Below w.heap.size w W0) := by rw [← hW0]; exact (Below.refl _ w).alloc (Nat.le_refl _) _
 have HP0 : Hid (Bk W0 w.heap.size 84 #[.int .i64 p.e.t, .int .i64 p.e.s, .int .i64 p.e.q, .int .i64 p.e.d, .int .i64 p.e.k, .int .i64 p.e.v, .int .i64 p.e.g, u7, .int .i64 p.b.q, .int .i64 p.b.d, u10, u11]) := by rw [← hW0]; exact Bk.new w _ _
 have HW : Hid (w.alloc (.cells #[.int .i64 p.e.t, .int .i64 p.e.s, .int .i64 p.e.q, .int .i64 p.e.d, .int .i64 p.e.k, .int .i64 p.e.v, .int .i64 p.e.g, u7, .int .i64 p.b.q, .int .i64 p.b.d, u10, u11] 84) = W0) := hW0
 clear hW0
 go_enter Try.func55, Try.ntmps55
 have p7 := HP0.out.cell (i := 7) rfl
 have p8 := HP0.out.cell (i := 8) rfl
 have p9 := HP0.out.cell (i := 9) rfl
 go_wp2_with fail
 rw [HW.out]
 clear HW
 clear p7 p8 p9
 refine (szState_R _ p.b _ _ h0 h1 ⟨_, rfl, (H7.out.under HB0.out).isI⟩).mono ?_
 rintro e w1 ⟨⟨r1, rfl, hr⟩, hb⟩
 have HB1 : Hid (Below w.heap.size w w1) := HB0.out.trans (hb.mono HB0.out.size)
 have HP1 : Hid (Bk w1 w.heap.size 84 #[.int .i64 p.e.t, .int .i64 p.e.s, .int .i64 p.e.q, .int .i64 p.e.d, .int .i64 p.e.k, .int .i64 p.e.v, .int .i64 p.e.g, u7, .int .i64 p.b.q, .int .i64 p.b.d, u10, u11]) := HP0.out.below hb
 clear hb
 rcases hr with rfl | ⟨r10, hr⟩
 ·go_wp2
  go_ret
  exact ⟨⟨_, rfl, .inl rfl⟩, HB1.out⟩
 have r11 : r1 ≤ 1048576 := by omega
 have r12 : ¬ (r1 < 0) := by omega
 have HR1 : Hid (r1 + ((intsD p.b.r).wt : Int) = left) := hr
 clear hr
 have p10 := HP1.out.cell (i := 10) rfl
 go_wp2_with fail
 clear p10
 refine (sz_evs _ p.s _ _ r10 r11 (H10.out.under HB1.out)).mono ?_
 rintro e w2 ⟨⟨r2, rfl, hr⟩, hb⟩
 have HB2 : Hid (Below w.heap.size w w2) := HB1.out.trans (hb.mono HB1.out.size)
 have HP2 : Hid (Bk w2 w.heap.size 84 #[.int .i64 p.e.t, .int .i64 p.e.s, .int .i64 p.e.q, .int .i64 p.e.d, .int .i64 p.e.k, .int .i64 p.e.v, .int .i64 p.e.g, u7, .int .i64 p.b.q, .int .i64 p.b.d, u10, u11]) := HP1.out.below hb
 clear hb
 rcases hr with rfl | ⟨r20, hr⟩
 ·go_wp2
  go_ret
  exact ⟨⟨_, rfl, .inl rfl⟩, HB2.out⟩
 have r21 : r2 ≤ 1048576 := by omega
 have r22 : ¬ (r2 < 0) := by omega
 have HR2 : Hid (r2 + ((evsD p.s).wt : Int) = r1) := hr
 clear hr
 have p11 := HP2.out.cell (i := 11) rfl
 go_wp2_with fail
 clear p11
 refine (sz_ems _ p.x _ _ r20 r21 (H11.out.under HB2.out)).mono ?_
 rintro e w3 ⟨⟨r3, rfl, hr⟩, hb⟩
 have HB3 : Hid (Below w.heap.size w w3) := HB2.out.trans (hb.mono HB2.out.size)
 have HP3 : Hid (Bk w3 w.heap.size 84 #[.int .i64 p.e.t, .int .i64 p.e.s, .int .i64 p.e.q, .int .i64 p.e.d, .int .i64 p.e.k, .int .i64 p.e.v, .int .i64 p.e.g, u7, .int .i64 p.b.q, .int .i64 p.b.d, u10, u11]) := HP2.out.below hb
 clear hb
 rcases hr with rfl | ⟨r30, hr⟩
 ·go_wp2
  go_ret
  exact ⟨⟨_, rfl, .inl rfl⟩, HB3.out⟩
 have r31 : r3 ≤ 1048576 := by omega
 have r32 : ¬ (r3 < 0) := by omega
 have HR3 : Hid (r3 + ((emsD p.x).wt : Int) = r2) := hr
 clear hr
 go_wp2
 go_ret
 refine ⟨⟨_, rfl, .inr ⟨r30, ?_⟩⟩, HB3.out⟩
 have := HR1.out
 have := HR2.out
 have := HR3.out
 unfold Ps.wt
 omega
set_option maxHeartbeats 4000000 in
theorem sz_pasts (x : Value) (l : List Ps) (left : Int) (w : World) (h0 : 0 ≤ left) (h1 : left ≤ 1048576) (h : IsD w x (pastsD l)) :
  Calls Try.prog 22 #[x, .int .i64 left] w fun e w' => (∃ r, e = .returned (.int .i64 r) ∧ SzR (pastsD l).wt left r) ∧ Below w.heap.size w w' := by
 obtain ⟨a, cap, rfl, hn1, hn, h⟩ := IsD.parts (c := 12) (n := l.length) h
 have hn2 : l.length ≤ 9223372036854775807 := by unfold maxLen at hn; omega
 clear hn1 hn
 by_cases hp : left - (l.length : Int) < 0
 ·go_enter Try.func22, Try.ntmps22
  go_wp2
  go_ret
  exact ⟨⟨_, rfl, .inl rfl⟩, Below.refl _ _⟩
 ·have HLF : Hid (0 ≤ left - (l.length : Int)) := (by omega : 0 ≤ left - (l.length : Int))
  go_enter Try.func22, Try.ntmps22
  go_wp2
  go_loopw [5, 1] (fun i z wr => ∃ k : Nat, k ≤ l.length ∧ i = .int .i64 k ∧ Below w.heap.size w wr ∧ ∃ lf : Int, z = .int .i64 lf ∧ 0 ≤ lf ∧ lf + (l.length : Int) + (sumL (fun i => (psAt l i).wt) k : Int) = left) (fun i _ _ => l.length - (intOf i).toNat)
  case atStart => exact ⟨0, Nat.zero_le _, rfl, Below.refl _ _, left - (l.length : Int), rfl, HLF.out, by simp [sumL]⟩
  case round =>
   obtain ⟨k, hk, rfl, hB, lf2, rfl, hz0, hz1⟩ := hrel
   have HZ : Hid (lf2 + (l.length : Int) + (sumL (fun i => (psAt l i).wt) k : Int) = left) := hz1
   have HB : Hid (Below w.heap.size w wr) := hB
   have hz2 : lf2 ≤ 1048576 := by omega
   clear hz1
   by_cases hlt : k < l.length
   ·obtain ⟨b, off, rfl, hb, hc⟩ := h.resolve_left (by omega)
    obtain ⟨u7, u10, u11, f0, f1, f2, f3, f4, f5, f6, f7, f8, f9, f10, f11, d7, d10, d11⟩ := pastsD_in (fun j hj => by
     obtain ⟨u, hu, hd⟩ := hc j hj
     exact ⟨u, (hB.cell (p := ⟨b, off + j, none⟩) hb).trans hu, hd.under hB⟩) hlt
    have HD : Hid (IsPast wr (.agg #[.int .i64 (psAt l k).e.t, .int .i64 (psAt l k).e.s, .int .i64 (psAt l k).e.q, .int .i64 (psAt l k).e.d, .int .i64 (psAt l k).e.k, .int .i64 (psAt l k).e.v, .int .i64 (psAt l k).e.g, u7, .int .i64 (psAt l k).b.q, .int .i64 (psAt l k).b.d, u10, u11]) (psAt l k)) := ⟨u7, u10, u11, rfl, d7, d10, d11⟩
    clear h hc hB d7 d10 d11
    go_wp2_with fail
    clear f0 f1 f2 f3 f4 f5 f6 f7 f8 f9 f10 f11
    refine (szPast_any _ (psAt l k) _ _ hz0 hz2 HD.out).mono ?_
    rintro e w2 ⟨⟨r, rfl, hr⟩, hb2⟩
    have HB2 : Hid (Below w.heap.size w w2) := HB.out.trans (hb2.mono HB.out.size)
    clear hb2
    rcases hr with rfl | ⟨r0, hr⟩
    ·go_wp2
     go_ret
     exact ⟨⟨_, rfl, .inl rfl⟩, HB2.out⟩
    ·have HR : Hid (r + ((psAt l k).wt : Int) = lf2) := hr
     have r2 : ¬ (r < 0) := by omega
     clear hr
     go_wp2
     go_roundw
     case rel => exact ⟨k + 1, by omega, by go_num, HB2.out, r, rfl, r0, by have := HR.out; have := HZ.out; simp only [sumL]; omega⟩
     case measure => simp [intOf]; omega
   ·clear h hB
    go_wp2
    go_ret
    obtain rfl : k = l.length := by omega
    exact ⟨⟨_, rfl, .inr ⟨hz0, by rw [pastsD_wt]; have := HZ.out; omega⟩⟩, HB.out⟩
set_option maxHeartbeats 4000000 in
theorem eqPast_same (x y : Value) (p : Ps) (w : World) (hw : p.wt ≤ 1048576) (hx : IsPast w x p) (hy : IsPast w y p) :
  Calls Try.prog 42 #[x, y] w fun e w' => e = .returned (.bool true) ∧ Below w.heap.size w w' := by
 obtain ⟨u7, u10, u11, rfl, h7, h10, h11⟩ := hx
 obtain ⟨v7, v10, v11, rfl, k7, k10, k11⟩ := hy
 have H7 : Hid (IsD w u7 (intsD p.b.r) ∧ IsD w v7 (intsD p.b.r)) := ⟨h7, k7⟩
 have H10 : Hid (IsD w u10 (evsD p.s) ∧ IsD w v10 (evsD p.s)) := ⟨h10, k10⟩
 have H11 : Hid (IsD w u11 (emsD p.x) ∧ IsD w v11 (emsD p.x)) := ⟨h11, k11⟩
 have HS : Hid (p.wt ≤ 1048576) := hw
 clear hw h7 k7 h10 k10 h11 k11
 obtain ⟨W0, hW0⟩ : ∃ W0, (w.alloc (.cells #[.int .i64 p.e.t, .int .i64 p.e.s, .int .i64 p.e.q, .int .i64 p.e.d, .int .i64 p.e.k, .int .i64 p.e.v, .int .i64 p.e.g, u7, .int .i64 p.b.q, .int .i64 p.b.d, u10, u11] 67)).alloc (.cells #[.int .i64 p.e.t, .int .i64 p.e.s, .int .i64 p.e.q, .int .i64 p.e.d, .int .i64 p.e.k, .int .i64 p.e.v, .int .i64 p.e.g, v7, .int .i64 p.b.q, .int .i64 p.b.d, v10, v11] 67) = W0 := ⟨_, rfl⟩
 have HB0 : Hid (Below w.heap.size w W0) := by rw [← hW0]; exact ((Below.refl _ w).alloc (Nat.le_refl _) _).alloc (by simp) _
 have HP0 : Hid (Bk W0 w.heap.size 67 #[.int .i64 p.e.t, .int .i64 p.e.s, .int .i64 p.e.q, .int .i64 p.e.d, .int .i64 p.e.k, .int .i64 p.e.v, .int .i64 p.e.g, u7, .int .i64 p.b.q, .int .i64 p.b.d, u10, u11]) := by rw [← hW0]; exact (Bk.new w _ _).alloc _
 have HQ0 : Hid (Bk W0 (w.heap.size + 1) 67 #[.int .i64 p.e.t, .int .i64 p.e.s, .int .i64 p.e.q, .int .i64 p.e.d, .int .i64 p.e.k, .int .i64 p.e.v, .int .i64 p.e.g, v7, .int .i64 p.b.q, .int .i64 p.b.d, v10, v11]) := by rw [← hW0]; exact Bk.newAt (by simp) _ _
 have HW : Hid ((w.alloc (.cells #[.int .i64 p.e.t, .int .i64 p.e.s, .int .i64 p.e.q, .int .i64 p.e.d, .int .i64 p.e.k, .int .i64 p.e.v, .int .i64 p.e.g, u7, .int .i64 p.b.q, .int .i64 p.b.d, u10, u11] 67)).alloc (.cells #[.int .i64 p.e.t, .int .i64 p.e.s, .int .i64 p.e.q, .int .i64 p.e.d, .int .i64 p.e.k, .int .i64 p.e.v, .int .i64 p.e.g, v7, .int .i64 p.b.q, .int .i64 p.b.d, v10, v11] 67) = W0) := hW0
 clear hW0
 go_enter Try.func42, Try.ntmps42
 have p0 := HP0.out.cell (i := 0) rfl
 have q0 := HQ0.out.cell (i := 0) rfl
 have p1 := HP0.out.cell (i := 1) rfl
 have q1 := HQ0.out.cell (i := 1) rfl
 have p2 := HP0.out.cell (i := 2) rfl
 have q2 := HQ0.out.cell (i := 2) rfl
 have p3 := HP0.out.cell (i := 3) rfl
 have q3 := HQ0.out.cell (i := 3) rfl
 have p4 := HP0.out.cell (i := 4) rfl
 have q4 := HQ0.out.cell (i := 4) rfl
 have p5 := HP0.out.cell (i := 5) rfl
 have q5 := HQ0.out.cell (i := 5) rfl
 have p6 := HP0.out.cell (i := 6) rfl
 have q6 := HQ0.out.cell (i := 6) rfl
 go_wp2_with fail
 rw [HW.out]
 clear HW
 clear p0 q0 p1 q1 p2 q2 p3 q3 p4 q4 p5 q5 p6 q6
 refine (eqEvent_same _ _ _ _ _ _ _ _).mono ?_
 rintro e w1 ⟨rfl, hb⟩
 have HB1 : Hid (Below w.heap.size w w1) := HB0.out.trans (hb.mono HB0.out.size)
 have HP1 : Hid (Bk w1 w.heap.size 67 #[.int .i64 p.e.t, .int .i64 p.e.s, .int .i64 p.e.q, .int .i64 p.e.d, .int .i64 p.e.k, .int .i64 p.e.v, .int .i64 p.e.g, u7, .int .i64 p.b.q, .int .i64 p.b.d, u10, u11]) := HP0.out.below hb
 have HQ1 : Hid (Bk w1 (w.heap.size + 1) 67 #[.int .i64 p.e.t, .int .i64 p.e.s, .int .i64 p.e.q, .int .i64 p.e.d, .int .i64 p.e.k, .int .i64 p.e.v, .int .i64 p.e.g, v7, .int .i64 p.b.q, .int .i64 p.b.d, v10, v11]) := HQ0.out.below hb
 clear hb
 have p7 := HP1.out.cell (i := 7) rfl
 have q7 := HQ1.out.cell (i := 7) rfl
 have p8 := HP1.out.cell (i := 8) rfl
 have q8 := HQ1.out.cell (i := 8) rfl
 have p9 := HP1.out.cell (i := 9) rfl
 have q9 := HQ1.out.cell (i := 9) rfl
 go_wp2_with fail
 clear p7 q7 p8 q8 p9 q9
 refine (eqState_same _ _ p.b _ (by have := HS.out; unfold Ps.wt at this; simp only [ems_wt, evs_wt, ints_wt] at this; omega) ⟨_, rfl, (H7.out.1.under HB1.out).isI⟩ ⟨_, rfl, (H7.out.2.under HB1.out).isI⟩).mono ?_
 rintro e w2 ⟨rfl, hb⟩
 have HB2 : Hid (Below w.heap.size w w2) := HB1.out.trans (hb.mono HB1.out.size)
 have HP2 : Hid (Bk w2 w.heap.size 67 #[.int .i64 p.e.t, .int .i64 p.e.s, .int .i64 p.e.q, .int .i64 p.e.d, .int .i64 p.e.k, .int .i64 p.e.v, .int .i64 p.e.g, u7, .int .i64 p.b.q, .int .i64 p.b.d, u10, u11]) := HP1.out.below hb
 have HQ2 : Hid (Bk w2 (w.heap.size + 1) 67 #[.int .i64 p.e.t, .int .i64 p.e.s, .int .i64 p.e.q, .int .i64 p.e.d, .int .i64 p.e.k, .int .i64 p.e.v, .int .i64 p.e.g, v7, .int .i64 p.b.q, .int .i64 p.b.d, v10, v11]) := HQ1.out.below hb
 clear hb
 have p10 := HP2.out.cell (i := 10) rfl
 have q10 := HQ2.out.cell (i := 10) rfl
 go_wp2_with fail
 clear p10 q10
 refine (eq_evs _ _ p.s _ (by have := HS.out; unfold Ps.wt at this; simp only [ems_wt, evs_wt, ints_wt] at this; omega) (H10.out.1.under HB2.out) (H10.out.2.under HB2.out)).mono ?_
 rintro e w3 ⟨rfl, hb⟩
 have HB3 : Hid (Below w.heap.size w w3) := HB2.out.trans (hb.mono HB2.out.size)
 have HP3 : Hid (Bk w3 w.heap.size 67 #[.int .i64 p.e.t, .int .i64 p.e.s, .int .i64 p.e.q, .int .i64 p.e.d, .int .i64 p.e.k, .int .i64 p.e.v, .int .i64 p.e.g, u7, .int .i64 p.b.q, .int .i64 p.b.d, u10, u11]) := HP2.out.below hb
 have HQ3 : Hid (Bk w3 (w.heap.size + 1) 67 #[.int .i64 p.e.t, .int .i64 p.e.s, .int .i64 p.e.q, .int .i64 p.e.d, .int .i64 p.e.k, .int .i64 p.e.v, .int .i64 p.e.g, v7, .int .i64 p.b.q, .int .i64 p.b.d, v10, v11]) := HQ2.out.below hb
 clear hb
 have p11 := HP3.out.cell (i := 11) rfl
 have q11 := HQ3.out.cell (i := 11) rfl
 go_wp2_with fail
 clear p11 q11
 refine (eq_ems _ _ p.x _ (by have := HS.out; unfold Ps.wt at this; simp only [ems_wt, evs_wt, ints_wt] at this; omega) (H11.out.1.under HB3.out) (H11.out.2.under HB3.out)).mono ?_
 rintro e w4 ⟨rfl, hb⟩
 have HB4 : Hid (Below w.heap.size w w4) := HB3.out.trans (hb.mono HB3.out.size)
 have HP4 : Hid (Bk w4 w.heap.size 67 #[.int .i64 p.e.t, .int .i64 p.e.s, .int .i64 p.e.q, .int .i64 p.e.d, .int .i64 p.e.k, .int .i64 p.e.v, .int .i64 p.e.g, u7, .int .i64 p.b.q, .int .i64 p.b.d, u10, u11]) := HP3.out.below hb
 have HQ4 : Hid (Bk w4 (w.heap.size + 1) 67 #[.int .i64 p.e.t, .int .i64 p.e.s, .int .i64 p.e.q, .int .i64 p.e.d, .int .i64 p.e.k, .int .i64 p.e.v, .int .i64 p.e.g, v7, .int .i64 p.b.q, .int .i64 p.b.d, v10, v11]) := HQ3.out.below hb
 clear hb
 go_wp2
 go_ret
 exact ⟨rfl, HB4.out⟩
end Go.Proofs.Ytdcnimdhfhbdmaa

/- eqPastS: two rows alike. -/
namespace Go.Proofs.Ytdcnimdhfhbdmaa
open Go.RowKit
set_option maxHeartbeats 8000000 in
theorem eq_pasts (x y : Value) (l : List Ps) (w : World) (hl : (pastsD l).wt ≤ 1048576) (hx : IsD w x (pastsD l)) (hy : IsD w y (pastsD l)) :
  Calls Try.prog 11 #[x, y] w fun e w' => e = .returned (.bool true) ∧ Below w.heap.size w w' := by
 obtain ⟨a, cap, rfl, h1, h2, h⟩ := IsD.parts (c := 12) (n := l.length) hx
 obtain ⟨a', cap', rfl, h1', h2', h'⟩ := IsD.parts (c := 12) (n := l.length) hy
 have HS : Hid ((pastsD l).wt ≤ 1048576) := hl
 have hl2 : l.length ≤ 1048576 := by rw [pastsD_wt] at hl; omega
 clear h1 h2 h1' h2' hx hy hl
 go_enter Try.func11, Try.ntmps11
 go_wp2
 go_loopw [5] (fun i wr => ∃ k : Nat, k ≤ l.length ∧ i = .int .i64 k ∧ Below w.heap.size w wr) (fun i _ => l.length - (intOf i).toNat)
 case atStart => exact ⟨0, Nat.zero_le _, rfl, Below.refl _ _⟩
 case round =>
  obtain ⟨k, hk, rfl, hB⟩ := hrel
  have HB : Hid (Below w.heap.size w wr) := hB
  by_cases hlt : k < l.length
  ·obtain ⟨b, off, rfl, hb, hc⟩ := h.resolve_left (by omega)
   obtain ⟨b', off', rfl, hb', hc'⟩ := h'.resolve_left (by omega)
   obtain ⟨u7, u10, u11, f0, f1, f2, f3, f4, f5, f6, f7, f8, f9, f10, f11, d7, d10, d11⟩ := pastsD_in (fun j hj => by
    obtain ⟨u, hu, hd⟩ := hc j hj
    exact ⟨u, (hB.cell (p := ⟨b, off + j, none⟩) hb).trans hu, hd.under hB⟩) hlt
   obtain ⟨v7, v10, v11, e0, e1, e2, e3, e4, e5, e6, e7, e8, e9, e10, e11, g7, g10, g11⟩ := pastsD_in (fun j hj => by
    obtain ⟨u, hu, hd⟩ := hc' j hj
    exact ⟨u, (hB.cell (p := ⟨b', off' + j, none⟩) hb').trans hu, hd.under hB⟩) hlt
   have HD : Hid (IsPast wr.drew (.agg #[.int .i64 (psAt l k).e.t, .int .i64 (psAt l k).e.s, .int .i64 (psAt l k).e.q, .int .i64 (psAt l k).e.d, .int .i64 (psAt l k).e.k, .int .i64 (psAt l k).e.v, .int .i64 (psAt l k).e.g, u7, .int .i64 (psAt l k).b.q, .int .i64 (psAt l k).b.d, u10, u11]) (psAt l k)) := IsPast.under (w := wr) ⟨u7, u10, u11, rfl, d7, d10, d11⟩ (Below.refl _ wr).drew
   have HG : Hid (IsPast wr.drew (.agg #[.int .i64 (psAt l k).e.t, .int .i64 (psAt l k).e.s, .int .i64 (psAt l k).e.q, .int .i64 (psAt l k).e.d, .int .i64 (psAt l k).e.k, .int .i64 (psAt l k).e.v, .int .i64 (psAt l k).e.g, v7, .int .i64 (psAt l k).b.q, .int .i64 (psAt l k).b.d, v10, v11]) (psAt l k)) := IsPast.under (w := wr) ⟨v7, v10, v11, rfl, g7, g10, g11⟩ (Below.refl _ wr).drew
   have HW : Hid ((psAt l k).wt ≤ 1048576) := Nat.le_trans (Ps.wt_le hlt) HS.out
   have hbr : b < wr.heap.size := Nat.lt_of_lt_of_le hb hB.size
   have hbr' : b' < wr.heap.size := Nat.lt_of_lt_of_le hb' hB.size
   clear hB hc hc' h h' d7 d10 d11 g7 g10 g11
   go_wp2_with fail
   go_region_held3 (fun W => W.cell? ⟨b, off + k * 12, none⟩ = some (.int .i64 (psAt l k).e.t) ∧ W.cell? ⟨b, off + k * 12 + 1, none⟩ = some (.int .i64 (psAt l k).e.s) ∧ W.cell? ⟨b, off + k * 12 + 2, none⟩ = some (.int .i64 (psAt l k).e.q) ∧ W.cell? ⟨b, off + k * 12 + 3, none⟩ = some (.int .i64 (psAt l k).e.d) ∧ W.cell? ⟨b, off + k * 12 + 4, none⟩ = some (.int .i64 (psAt l k).e.k) ∧ W.cell? ⟨b, off + k * 12 + 5, none⟩ = some (.int .i64 (psAt l k).e.v) ∧ W.cell? ⟨b, off + k * 12 + 6, none⟩ = some (.int .i64 (psAt l k).e.g) ∧ W.cell? ⟨b, off + k * 12 + 7, none⟩ = some (u7) ∧ W.cell? ⟨b, off + k * 12 + 8, none⟩ = some (.int .i64 (psAt l k).b.q) ∧ W.cell? ⟨b, off + k * 12 + 9, none⟩ = some (.int .i64 (psAt l k).b.d) ∧ W.cell? ⟨b, off + k * 12 + 10, none⟩ = some (u10) ∧ W.cell? ⟨b, off + k * 12 + 11, none⟩ = some (u11) ∧ W.cell? ⟨b', off' + k * 12, none⟩ = some (.int .i64 (psAt l k).e.t) ∧ W.cell? ⟨b', off' + k * 12 + 1, none⟩ = some (.int .i64 (psAt l k).e.s) ∧ W.cell? ⟨b', off' + k * 12 + 2, none⟩ = some (.int .i64 (psAt l k).e.q) ∧ W.cell? ⟨b', off' + k * 12 + 3, none⟩ = some (.int .i64 (psAt l k).e.d) ∧ W.cell? ⟨b', off' + k * 12 + 4, none⟩ = some (.int .i64 (psAt l k).e.k) ∧ W.cell? ⟨b', off' + k * 12 + 5, none⟩ = some (.int .i64 (psAt l k).e.v) ∧ W.cell? ⟨b', off' + k * 12 + 6, none⟩ = some (.int .i64 (psAt l k).e.g) ∧ W.cell? ⟨b', off' + k * 12 + 7, none⟩ = some (v7) ∧ W.cell? ⟨b', off' + k * 12 + 8, none⟩ = some (.int .i64 (psAt l k).b.q) ∧ W.cell? ⟨b', off' + k * 12 + 9, none⟩ = some (.int .i64 (psAt l k).b.d) ∧ W.cell? ⟨b', off' + k * 12 + 10, none⟩ = some (v10) ∧ W.cell? ⟨b', off' + k * 12 + 11, none⟩ = some (v11)) ((repeat' apply And.intro) <;> first | (go_keep; done) | (rw [hcA _ _ (by first | omega | (simp; omega) | simp [*])]; simp [*]; done))
    (first | (go_at_call 42; refine (eqPast_same _ _ (psAt l k) _ HW.out HD.out HG.out).mono ?_; rintro e w2 ⟨rfl, hb2⟩; obtain ⟨hcA, hfA⟩ := bcell hb2))
   clear hcA hfA
   go_wp2
   go_roundw
   case rel => exact ⟨k + 1, by omega, by go_num, HB.out.drew.trans (hb2.mono (by have := HB.out.size; simpa using this))⟩
   case measure => simp [intOf]; omega
  ·clear hB h h'
   go_wp2
   go_ret
   exact ⟨rfl, HB.out⟩
end Go.Proofs.Ytdcnimdhfhbdmaa

/- szPart, eqPart. -/
namespace Go.Proofs.Ytdcnimdhfhbdmaa
open Go.RowKit
set_option maxHeartbeats 4000000 in
theorem szPart_any (x : Value) (p : Pa) (left : Int) (w : World) (h0 : 0 ≤ left) (h1 : left ≤ 1048576) (h : IsPart w x p) :
  Calls Try.prog 5 #[x, .int .i64 left] w fun e w' => (∃ r, e = .returned (.int .i64 r) ∧ SzR p.wt left r) ∧ Below w.heap.size w w' := by
 obtain ⟨u1, u4, u5, u6, rfl, h1, h4, h5, h6⟩ := h
 have H1 : Hid (IsD w u1 (intsD p.st.r)) := h1
 have H4 : Hid (IsD w u4 (pastsD p.p)) := h4
 have H5 : Hid (IsD w u5 (evsD p.t)) := h5
 have H6 : Hid (IsD w u6 (intsD p.a)) := h6
 clear h1 h4 h5 h6
 obtain ⟨W0, hW0⟩ : ∃ W0, w.alloc (.cells #[.int .i64 p.n, u1, .int .i64 p.st.q, .int .i64 p.st.d, u4, u5, u6] 28) = W0 := ⟨_, rfl⟩
 have HB0 : Hid (Below w.heap.size w W0) := by rw [← hW0]; exact (Below.refl _ w).alloc (Nat.le_refl _) _
 have HP0 : Hid (Bk W0 w.heap.size 28 #[.int .i64 p.n, u1, .int .i64 p.st.q, .int .i64 p.st.d, u4, u5, u6]) := by rw [← hW0]; exact Bk.new w _ _
 have HW : Hid (w.alloc (.cells #[.int .i64 p.n, u1, .int .i64 p.st.q, .int .i64 p.st.d, u4, u5, u6] 28) = W0) := hW0
 clear hW0
 go_enter Try.func5, Try.ntmps5
 have p1 := HP0.out.cell (i := 1) rfl
 have p2 := HP0.out.cell (i := 2) rfl
 have p3 := HP0.out.cell (i := 3) rfl
 go_wp2_with fail
 rw [HW.out]
 clear HW
 clear p1 p2 p3
 refine (szState_R _ p.st _ _ h0 h1 ⟨_, rfl, (H1.out.under HB0.out).isI⟩).mono ?_
 rintro e w1 ⟨⟨r1, rfl, hr⟩, hb⟩
 have HB1 : Hid (Below w.heap.size w w1) := HB0.out.trans (hb.mono HB0.out.size)
 have HP1 : Hid (Bk w1 w.heap.size 28 #[.int .i64 p.n, u1, .int .i64 p.st.q, .int .i64 p.st.d, u4, u5, u6]) := HP0.out.below hb
 clear hb
 rcases hr with rfl | ⟨r10, hr⟩
 ·go_wp2
  go_ret
  exact ⟨⟨_, rfl, .inl rfl⟩, HB1.out⟩
 have r11 : r1 ≤ 1048576 := by omega
 have r12 : ¬ (r1 < 0) := by omega
 have HR1 : Hid (r1 + ((intsD p.st.r).wt : Int) = left) := hr
 clear hr
 have p4 := HP1.out.cell (i := 4) rfl
 go_wp2_with fail
 clear p4
 refine (sz_pasts _ p.p _ _ r10 r11 (H4.out.under HB1.out)).mono ?_
 rintro e w2 ⟨⟨r2, rfl, hr⟩, hb⟩
 have HB2 : Hid (Below w.heap.size w w2) := HB1.out.trans (hb.mono HB1.out.size)
 have HP2 : Hid (Bk w2 w.heap.size 28 #[.int .i64 p.n, u1, .int .i64 p.st.q, .int .i64 p.st.d, u4, u5, u6]) := HP1.out.below hb
 clear hb
 rcases hr with rfl | ⟨r20, hr⟩
 ·go_wp2
  go_ret
  exact ⟨⟨_, rfl, .inl rfl⟩, HB2.out⟩
 have r21 : r2 ≤ 1048576 := by omega
 have r22 : ¬ (r2 < 0) := by omega
 have HR2 : Hid (r2 + ((pastsD p.p).wt : Int) = r1) := hr
 clear hr
 have p5 := HP2.out.cell (i := 5) rfl
 go_wp2_with fail
 clear p5
 refine (sz_evs _ p.t _ _ r20 r21 (H5.out.under HB2.out)).mono ?_
 rintro e w3 ⟨⟨r3, rfl, hr⟩, hb⟩
 have HB3 : Hid (Below w.heap.size w w3) := HB2.out.trans (hb.mono HB2.out.size)
 have HP3 : Hid (Bk w3 w.heap.size 28 #[.int .i64 p.n, u1, .int .i64 p.st.q, .int .i64 p.st.d, u4, u5, u6]) := HP2.out.below hb
 clear hb
 rcases hr with rfl | ⟨r30, hr⟩
 ·go_wp2
  go_ret
  exact ⟨⟨_, rfl, .inl rfl⟩, HB3.out⟩
 have r31 : r3 ≤ 1048576 := by omega
 have r32 : ¬ (r3 < 0) := by omega
 have HR3 : Hid (r3 + ((evsD p.t).wt : Int) = r2) := hr
 clear hr
 have p6 := HP3.out.cell (i := 6) rfl
 go_wp2_with fail
 clear p6
 refine (sz_ints _ p.a _ _ r30 r31 (H6.out.under HB3.out)).mono ?_
 rintro e w4 ⟨⟨r4, rfl, hr⟩, hb⟩
 have HB4 : Hid (Below w.heap.size w w4) := HB3.out.trans (hb.mono HB3.out.size)
 have HP4 : Hid (Bk w4 w.heap.size 28 #[.int .i64 p.n, u1, .int .i64 p.st.q, .int .i64 p.st.d, u4, u5, u6]) := HP3.out.below hb
 clear hb
 rcases hr with rfl | ⟨r40, hr⟩
 ·go_wp2
  go_ret
  exact ⟨⟨_, rfl, .inl rfl⟩, HB4.out⟩
 have r41 : r4 ≤ 1048576 := by omega
 have r42 : ¬ (r4 < 0) := by omega
 have HR4 : Hid (r4 + ((intsD p.a).wt : Int) = r3) := hr
 clear hr
 go_wp2
 go_ret
 refine ⟨⟨_, rfl, .inr ⟨r40, ?_⟩⟩, HB4.out⟩
 have := HR1.out
 have := HR2.out
 have := HR3.out
 have := HR4.out
 unfold Pa.wt
 omega
set_option maxHeartbeats 4000000 in
theorem eqPart_same (x y : Value) (p : Pa) (w : World) (hw : p.wt ≤ 1048576) (hx : IsPart w x p) (hy : IsPart w y p) :
  Calls Try.prog 10 #[x, y] w fun e w' => e = .returned (.bool true) ∧ Below w.heap.size w w' := by
 obtain ⟨u1, u4, u5, u6, rfl, h1, h4, h5, h6⟩ := hx
 obtain ⟨v1, v4, v5, v6, rfl, k1, k4, k5, k6⟩ := hy
 have H1 : Hid (IsD w u1 (intsD p.st.r) ∧ IsD w v1 (intsD p.st.r)) := ⟨h1, k1⟩
 have H4 : Hid (IsD w u4 (pastsD p.p) ∧ IsD w v4 (pastsD p.p)) := ⟨h4, k4⟩
 have H5 : Hid (IsD w u5 (evsD p.t) ∧ IsD w v5 (evsD p.t)) := ⟨h5, k5⟩
 have H6 : Hid (IsD w u6 (intsD p.a) ∧ IsD w v6 (intsD p.a)) := ⟨h6, k6⟩
 have HS : Hid (p.wt ≤ 1048576) := hw
 clear hw h1 k1 h4 k4 h5 k5 h6 k6
 obtain ⟨W0, hW0⟩ : ∃ W0, (w.alloc (.cells #[.int .i64 p.n, u1, .int .i64 p.st.q, .int .i64 p.st.d, u4, u5, u6] 36)).alloc (.cells #[.int .i64 p.n, v1, .int .i64 p.st.q, .int .i64 p.st.d, v4, v5, v6] 36) = W0 := ⟨_, rfl⟩
 have HB0 : Hid (Below w.heap.size w W0) := by rw [← hW0]; exact ((Below.refl _ w).alloc (Nat.le_refl _) _).alloc (by simp) _
 have HP0 : Hid (Bk W0 w.heap.size 36 #[.int .i64 p.n, u1, .int .i64 p.st.q, .int .i64 p.st.d, u4, u5, u6]) := by rw [← hW0]; exact (Bk.new w _ _).alloc _
 have HQ0 : Hid (Bk W0 (w.heap.size + 1) 36 #[.int .i64 p.n, v1, .int .i64 p.st.q, .int .i64 p.st.d, v4, v5, v6]) := by rw [← hW0]; exact Bk.newAt (by simp) _ _
 have HW : Hid ((w.alloc (.cells #[.int .i64 p.n, u1, .int .i64 p.st.q, .int .i64 p.st.d, u4, u5, u6] 36)).alloc (.cells #[.int .i64 p.n, v1, .int .i64 p.st.q, .int .i64 p.st.d, v4, v5, v6] 36) = W0) := hW0
 clear hW0
 go_enter Try.func10, Try.ntmps10
 have p0 := HP0.out.cell (i := 0) rfl
 have q0 := HQ0.out.cell (i := 0) rfl
 have p1 := HP0.out.cell (i := 1) rfl
 have q1 := HQ0.out.cell (i := 1) rfl
 have p2 := HP0.out.cell (i := 2) rfl
 have q2 := HQ0.out.cell (i := 2) rfl
 have p3 := HP0.out.cell (i := 3) rfl
 have q3 := HQ0.out.cell (i := 3) rfl
 go_wp2_with fail
 rw [HW.out]
 clear HW
 clear p0 q0 p1 q1 p2 q2 p3 q3
 refine (eqState_same _ _ p.st _ (by have := HS.out; unfold Pa.wt at this; simp only [evs_wt, ints_wt] at this; omega) ⟨_, rfl, (H1.out.1.under HB0.out).isI⟩ ⟨_, rfl, (H1.out.2.under HB0.out).isI⟩).mono ?_
 rintro e w1 ⟨rfl, hb⟩
 have HB1 : Hid (Below w.heap.size w w1) := HB0.out.trans (hb.mono HB0.out.size)
 have HP1 : Hid (Bk w1 w.heap.size 36 #[.int .i64 p.n, u1, .int .i64 p.st.q, .int .i64 p.st.d, u4, u5, u6]) := HP0.out.below hb
 have HQ1 : Hid (Bk w1 (w.heap.size + 1) 36 #[.int .i64 p.n, v1, .int .i64 p.st.q, .int .i64 p.st.d, v4, v5, v6]) := HQ0.out.below hb
 clear hb
 have p4 := HP1.out.cell (i := 4) rfl
 have q4 := HQ1.out.cell (i := 4) rfl
 go_wp2_with fail
 clear p4 q4
 refine (eq_pasts _ _ p.p _ (by have := HS.out; unfold Pa.wt at this; simp only [evs_wt, ints_wt] at this; omega) (H4.out.1.under HB1.out) (H4.out.2.under HB1.out)).mono ?_
 rintro e w2 ⟨rfl, hb⟩
 have HB2 : Hid (Below w.heap.size w w2) := HB1.out.trans (hb.mono HB1.out.size)
 have HP2 : Hid (Bk w2 w.heap.size 36 #[.int .i64 p.n, u1, .int .i64 p.st.q, .int .i64 p.st.d, u4, u5, u6]) := HP1.out.below hb
 have HQ2 : Hid (Bk w2 (w.heap.size + 1) 36 #[.int .i64 p.n, v1, .int .i64 p.st.q, .int .i64 p.st.d, v4, v5, v6]) := HQ1.out.below hb
 clear hb
 have p5 := HP2.out.cell (i := 5) rfl
 have q5 := HQ2.out.cell (i := 5) rfl
 go_wp2_with fail
 clear p5 q5
 refine (eq_evs _ _ p.t _ (by have := HS.out; unfold Pa.wt at this; simp only [evs_wt, ints_wt] at this; omega) (H5.out.1.under HB2.out) (H5.out.2.under HB2.out)).mono ?_
 rintro e w3 ⟨rfl, hb⟩
 have HB3 : Hid (Below w.heap.size w w3) := HB2.out.trans (hb.mono HB2.out.size)
 have HP3 : Hid (Bk w3 w.heap.size 36 #[.int .i64 p.n, u1, .int .i64 p.st.q, .int .i64 p.st.d, u4, u5, u6]) := HP2.out.below hb
 have HQ3 : Hid (Bk w3 (w.heap.size + 1) 36 #[.int .i64 p.n, v1, .int .i64 p.st.q, .int .i64 p.st.d, v4, v5, v6]) := HQ2.out.below hb
 clear hb
 have p6 := HP3.out.cell (i := 6) rfl
 have q6 := HQ3.out.cell (i := 6) rfl
 go_wp2_with fail
 clear p6 q6
 refine (eq_ints _ _ p.a _ (by have := HS.out; unfold Pa.wt at this; simp only [evs_wt, ints_wt] at this; omega) (H6.out.1.under HB3.out) (H6.out.2.under HB3.out)).mono ?_
 rintro e w4 ⟨rfl, hb⟩
 have HB4 : Hid (Below w.heap.size w w4) := HB3.out.trans (hb.mono HB3.out.size)
 have HP4 : Hid (Bk w4 w.heap.size 36 #[.int .i64 p.n, u1, .int .i64 p.st.q, .int .i64 p.st.d, u4, u5, u6]) := HP3.out.below hb
 have HQ4 : Hid (Bk w4 (w.heap.size + 1) 36 #[.int .i64 p.n, v1, .int .i64 p.st.q, .int .i64 p.st.d, v4, v5, v6]) := HQ3.out.below hb
 clear hb
 go_wp2
 go_ret
 exact ⟨rfl, HB4.out⟩
end Go.Proofs.Ytdcnimdhfhbdmaa

