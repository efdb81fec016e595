/- TPsA, TPsB, TPtA, TPp, KMl -/
import Derived.Test.YtnlhcdchmgfipaaGreatExactWorldOkG04
import Derived.Deep.RegionHeld3
/- szPast, szPastS: how much there is; eqPast: two alike. -/
namespace Go.Proofs.YtnlhcdchmgfipaaGreat
open Go.RowKit
theorem hidTPsA {p : Prop} (h : p) : Hid p := h
set_option maxHeartbeats 4000000 in
theorem szPast_any (x : Value) (p : Ps) (left : Int) (w : World) (h0 : 0 ≤ left) (h1 : left ≤ 1048576) (h : IsPast w x p) :
  Calls Tryz.prog 188 #[x, .int .i64 left] w fun e w' => (∃ r, e = .returned (.int .i64 r) ∧ SzR p.wt left r) ∧ Below w.heap.size w w' := by
 obtain ⟨u7, u10, u11, rfl, h7, h10, h11⟩ := h
 have H7 := hidTPsA h7
 have H10 := hidTPsA h10
 have H11 := hidTPsA h11
 clear h7 h10 h11
 obtain ⟨W0, hW0⟩ : ∃ W0, w.alloc (.cells #[.int .i64 p.e.t, .int .i64 p.e.s, .int .i64 p.e.q, .int .i64 p.e.d, .int .i64 p.e.k, .int .i64 p.e.v, .int .i64 p.e.g, u7, .int .i64 p.b.q, .int .i64 p.b.d, u10, u11] 217) = W0 := ⟨_, rfl⟩
 have HB0 : Hid (Below w.heap.size w W0) := by rw [← hW0]; exact (Below.refl _ w).alloc (Nat.le_refl _) _
 have HP0 : Hid (Bk W0 w.heap.size 217 #[.int .i64 p.e.t, .int .i64 p.e.s, .int .i64 p.e.q, .int .i64 p.e.d, .int .i64 p.e.k, .int .i64 p.e.v, .int .i64 p.e.g, u7, .int .i64 p.b.q, .int .i64 p.b.d, u10, u11]) := by rw [← hW0]; exact Bk.new w _ _
 have HW := hidTPsA hW0
 clear hW0
 go_enter Tryz.func188, Tryz.ntmps188
 have p7 := HP0.out.cell (i := 7) rfl
 have p8 := HP0.out.cell (i := 8) rfl
 have p9 := HP0.out.cell (i := 9) rfl
 go_wp2_with fail
 rw [HW.out]
 clear HW
 clear p7 p8 p9
 refine (szState_R _ p.b _ _ h0 h1 ⟨_, rfl, (H7.out.under HB0.out).isI⟩).mono ?_
 rintro e w1 ⟨⟨r1, rfl, hr⟩, hb⟩
 have HB1 := hidTPsA (HB0.out.trans (hb.mono HB0.out.size))
 have HP1 := hidTPsA (HP0.out.below hb)
 clear hb
 rcases hr with rfl | ⟨r10, hr⟩
 ·go_wp2
  go_ret
  exact ⟨⟨_, rfl, .inl rfl⟩, HB1.out⟩
 have r11 : r1 ≤ 1048576 := by omega
 have r12 : ¬ (r1 < 0) := by omega
 have HR1 := hidTPsA hr
 clear hr
 have p10 := HP1.out.cell (i := 10) rfl
 go_wp2_with fail
 clear p10
 refine (sz_evs _ p.s _ _ r10 r11 (H10.out.under HB1.out)).mono ?_
 rintro e w2 ⟨⟨r2, rfl, hr⟩, hb⟩
 have HB2 := hidTPsA (HB1.out.trans (hb.mono HB1.out.size))
 have HP2 := hidTPsA (HP1.out.below hb)
 clear hb
 rcases hr with rfl | ⟨r20, hr⟩
 ·go_wp2
  go_ret
  exact ⟨⟨_, rfl, .inl rfl⟩, HB2.out⟩
 have r21 : r2 ≤ 1048576 := by omega
 have r22 : ¬ (r2 < 0) := by omega
 have HR2 := hidTPsA hr
 clear hr
 have p11 := HP2.out.cell (i := 11) rfl
 go_wp2_with fail
 clear p11
 refine (sz_ems _ p.x _ _ r20 r21 (H11.out.under HB2.out)).mono ?_
 rintro e w3 ⟨⟨r3, rfl, hr⟩, hb⟩
 have HB3 := hidTPsA (HB2.out.trans (hb.mono HB2.out.size))
 have HP3 := hidTPsA (HP2.out.below hb)
 clear hb
 rcases hr with rfl | ⟨r30, hr⟩
 ·go_wp2
  go_ret
  exact ⟨⟨_, rfl, .inl rfl⟩, HB3.out⟩
 have r31 : r3 ≤ 1048576 := by omega
 have r32 : ¬ (r3 < 0) := by omega
 have HR3 := hidTPsA hr
 clear hr
 go_wp2
 go_ret
 refine ⟨⟨_, rfl, .inr ⟨r30, ?_⟩⟩, HB3.out⟩
 have := HR1.out
 have := HR2.out
 have := HR3.out
 unfold Ps.wt
 omega
set_option maxHeartbeats 4000000 in
theorem sz_pasts (x : Value) (l : List Ps) (left : Int) (w : World) (h0 : 0 ≤ left) (h1 : left ≤ 1048576) (h : IsD w x (pastsD l)) :
  Calls Tryz.prog 155 #[x, .int .i64 left] w fun e w' => (∃ r, e = .returned (.int .i64 r) ∧ SzR (pastsD l).wt left r) ∧ Below w.heap.size w w' := by
 obtain ⟨a, cap, rfl, hn1, hn, h⟩ := IsD.parts (c := 12) (n := l.length) h
 have hn2 : l.length ≤ 9223372036854775807 := by unfold maxLen at hn; omega
 clear hn1 hn
 by_cases hp : left - (l.length : Int) < 0
 ·go_enter Tryz.func155, Tryz.ntmps155
  go_wp2
  go_ret
  exact ⟨⟨_, rfl, .inl rfl⟩, Below.refl _ _⟩
 ·have HLF : Hid (0 ≤ left - (l.length : Int)) := (by omega : 0 ≤ left - (l.length : Int))
  go_enter Tryz.func155, Tryz.ntmps155
  go_wp2
  go_loopw [5, 1] (fun i z wr => ∃ k : Nat, k ≤ l.length ∧ i = .int .i64 k ∧ Below w.heap.size w wr ∧ ∃ lf : Int, z = .int .i64 lf ∧ 0 ≤ lf ∧ lf + (l.length : Int) + (sumL (fun i => (psAt l i).wt) k : Int) = left) (fun i _ _ => l.length - (intOf i).toNat)
  case atStart => exact ⟨0, Nat.zero_le _, rfl, Below.refl _ _, left - (l.length : Int), rfl, HLF.out, by simp [sumL]⟩
  case round =>
   obtain ⟨k, hk, rfl, hB, lf2, rfl, hz0, hz1⟩ := hrel
   have HZ := hidTPsA hz1
   have HB := hidTPsA hB
   have hz2 : lf2 ≤ 1048576 := by omega
   clear hz1
   by_cases hlt : k < l.length
   ·obtain ⟨b, off, rfl, hb, hc⟩ := h.resolve_left (by omega)
    obtain ⟨u7, u10, u11, f0, f1, f2, f3, f4, f5, f6, f7, f8, f9, f10, f11, d7, d10, d11⟩ := pastsD_in (fun j hj => by
     obtain ⟨u, hu, hd⟩ := hc j hj
     exact ⟨u, (hB.cell (p := ⟨b, off + j, none⟩) hb).trans hu, hd.under hB⟩) hlt
    have HD : Hid (IsPast wr (.agg #[.int .i64 (psAt l k).e.t, .int .i64 (psAt l k).e.s, .int .i64 (psAt l k).e.q, .int .i64 (psAt l k).e.d, .int .i64 (psAt l k).e.k, .int .i64 (psAt l k).e.v, .int .i64 (psAt l k).e.g, u7, .int .i64 (psAt l k).b.q, .int .i64 (psAt l k).b.d, u10, u11]) (psAt l k)) := ⟨u7, u10, u11, rfl, d7, d10, d11⟩
    clear h hc hB d7 d10 d11
    go_wp2_with fail
    clear f0 f1 f2 f3 f4 f5 f6 f7 f8 f9 f10 f11
    refine (szPast_any _ (psAt l k) _ _ hz0 hz2 HD.out).mono ?_
    rintro e w2 ⟨⟨r, rfl, hr⟩, hb2⟩
    have HB2 := hidTPsA (HB.out.trans (hb2.mono HB.out.size))
    clear hb2
    rcases hr with rfl | ⟨r0, hr⟩
    ·go_wp2
     go_ret
     exact ⟨⟨_, rfl, .inl rfl⟩, HB2.out⟩
    ·have HR := hidTPsA hr
     have r2 : ¬ (r < 0) := by omega
     clear hr
     go_wp2
     go_roundw
     case rel => exact ⟨k + 1, by omega, by go_num, HB2.out, r, rfl, r0, by have := HR.out; have := HZ.out; simp only [sumL]; omega⟩
     case measure => simp [intOf]; omega
   ·clear h hB
    go_wp2
    go_ret
    obtain rfl : k = l.length := by omega
    exact ⟨⟨_, rfl, .inr ⟨hz0, by rw [pastsD_wt]; have := HZ.out; omega⟩⟩, HB.out⟩
set_option maxHeartbeats 4000000 in
theorem eqPast_same (x y : Value) (p : Ps) (w : World) (hw : p.wt ≤ 1048576) (hx : IsPast w x p) (hy : IsPast w y p) :
  Calls Tryz.prog 197 #[x, y] w fun e w' => e = .returned (.bool true) ∧ Below w.heap.size w w' := by
 obtain ⟨u7, u10, u11, rfl, h7, h10, h11⟩ := hx
 obtain ⟨v7, v10, v11, rfl, k7, k10, k11⟩ := hy
 have H7 : Hid (IsD w u7 (intsD p.b.r) ∧ IsD w v7 (intsD p.b.r)) := ⟨h7, k7⟩
 have H10 : Hid (IsD w u10 (evsD p.s) ∧ IsD w v10 (evsD p.s)) := ⟨h10, k10⟩
 have H11 : Hid (IsD w u11 (emsD p.x) ∧ IsD w v11 (emsD p.x)) := ⟨h11, k11⟩
 have HS : Hid (p.wt ≤ 1048576) := hw
 clear hw h7 k7 h10 k10 h11 k11
 obtain ⟨W0, hW0⟩ : ∃ W0, (w.alloc (.cells #[.int .i64 p.e.t, .int .i64 p.e.s, .int .i64 p.e.q, .int .i64 p.e.d, .int .i64 p.e.k, .int .i64 p.e.v, .int .i64 p.e.g, u7, .int .i64 p.b.q, .int .i64 p.b.d, u10, u11] 147)).alloc (.cells #[.int .i64 p.e.t, .int .i64 p.e.s, .int .i64 p.e.q, .int .i64 p.e.d, .int .i64 p.e.k, .int .i64 p.e.v, .int .i64 p.e.g, v7, .int .i64 p.b.q, .int .i64 p.b.d, v10, v11] 147) = W0 := ⟨_, rfl⟩
 have HB0 : Hid (Below w.heap.size w W0) := by rw [← hW0]; exact ((Below.refl _ w).alloc (Nat.le_refl _) _).alloc (by simp) _
 have HP0 : Hid (Bk W0 w.heap.size 147 #[.int .i64 p.e.t, .int .i64 p.e.s, .int .i64 p.e.q, .int .i64 p.e.d, .int .i64 p.e.k, .int .i64 p.e.v, .int .i64 p.e.g, u7, .int .i64 p.b.q, .int .i64 p.b.d, u10, u11]) := by rw [← hW0]; exact (Bk.new w _ _).alloc _
 have HQ0 : Hid (Bk W0 (w.heap.size + 1) 147 #[.int .i64 p.e.t, .int .i64 p.e.s, .int .i64 p.e.q, .int .i64 p.e.d, .int .i64 p.e.k, .int .i64 p.e.v, .int .i64 p.e.g, v7, .int .i64 p.b.q, .int .i64 p.b.d, v10, v11]) := by rw [← hW0]; exact Bk.newAt (by simp) _ _
 have HW := hidTPsA hW0
 clear hW0
 go_enter Tryz.func197, Tryz.ntmps197
 have p0 := HP0.out.cell (i := 0) rfl
 have q0 := HQ0.out.cell (i := 0) rfl
 have p1 := HP0.out.cell (i := 1) rfl
 have q1 := HQ0.out.cell (i := 1) rfl
 have p2 := HP0.out.cell (i := 2) rfl
 have q2 := HQ0.out.cell (i := 2) rfl
 have p3 := HP0.out.cell (i := 3) rfl
 have q3 := HQ0.out.cell (i := 3) rfl
 have p4 := HP0.out.cell (i := 4) rfl
 have q4 := HQ0.out.cell (i := 4) rfl
 have p5 := HP0.out.cell (i := 5) rfl
 have q5 := HQ0.out.cell (i := 5) rfl
 have p6 := HP0.out.cell (i := 6) rfl
 have q6 := HQ0.out.cell (i := 6) rfl
 go_wp2_with fail
 rw [HW.out]
 clear HW
 clear p0 q0 p1 q1 p2 q2 p3 q3 p4 q4 p5 q5 p6 q6
 refine (eqEvent_same _ _ _ _ _ _ _ _).mono ?_
 rintro e w1 ⟨rfl, hb⟩
 have HB1 := hidTPsA (HB0.out.trans (hb.mono HB0.out.size))
 have HP1 := hidTPsA (HP0.out.below hb)
 have HQ1 := hidTPsA (HQ0.out.below hb)
 clear hb
 have p7 := HP1.out.cell (i := 7) rfl
 have q7 := HQ1.out.cell (i := 7) rfl
 have p8 := HP1.out.cell (i := 8) rfl
 have q8 := HQ1.out.cell (i := 8) rfl
 have p9 := HP1.out.cell (i := 9) rfl
 have q9 := HQ1.out.cell (i := 9) rfl
 go_wp2_with fail
 clear p7 q7 p8 q8 p9 q9
 refine (eqState_same _ _ p.b _ (by have := HS.out; unfold Ps.wt at this; simp only [ems_wt, evs_wt, ints_wt] at this; omega) ⟨_, rfl, (H7.out.1.under HB1.out).isI⟩ ⟨_, rfl, (H7.out.2.under HB1.out).isI⟩).mono ?_
 rintro e w2 ⟨rfl, hb⟩
 have HB2 := hidTPsA (HB1.out.trans (hb.mono HB1.out.size))
 have HP2 := hidTPsA (HP1.out.below hb)
 have HQ2 := hidTPsA (HQ1.out.below hb)
 clear hb
 have p10 := HP2.out.cell (i := 10) rfl
 have q10 := HQ2.out.cell (i := 10) rfl
 go_wp2_with fail
 clear p10 q10
 refine (eq_evs _ _ p.s _ (by have := HS.out; unfold Ps.wt at this; simp only [ems_wt, evs_wt, ints_wt] at this; omega) (H10.out.1.under HB2.out) (H10.out.2.under HB2.out)).mono ?_
 rintro e w3 ⟨rfl, hb⟩
 have HB3 := hidTPsA (HB2.out.trans (hb.mono HB2.out.size))
 have HP3 := hidTPsA (HP2.out.below hb)
 have HQ3 := hidTPsA (HQ2.out.below hb)
 clear hb
 have p11 := HP3.out.cell (i := 11) rfl
 have q11 := HQ3.out.cell (i := 11) rfl
 go_wp2_with fail
 clear p11 q11
 refine (eq_ems _ _ p.x _ (by have := HS.out; unfold Ps.wt at this; simp only [ems_wt, evs_wt, ints_wt] at this; omega) (H11.out.1.under HB3.out) (H11.out.2.under HB3.out)).mono ?_
 rintro e w4 ⟨rfl, hb⟩
 have HB4 := hidTPsA (HB3.out.trans (hb.mono HB3.out.size))
 have HP4 := hidTPsA (HP3.out.below hb)
 have HQ4 := hidTPsA (HQ3.out.below hb)
 clear hb
 go_wp2
 go_ret
 exact ⟨rfl, HB4.out⟩
end Go.Proofs.YtnlhcdchmgfipaaGreat

/- eqPastS: two rows alike. -/
namespace Go.Proofs.YtnlhcdchmgfipaaGreat
open Go.RowKit
set_option maxHeartbeats 8000000 in
theorem eq_pasts (x y : Value) (l : List Ps) (w : World) (hl : (pastsD l).wt ≤ 1048576) (hx : IsD w x (pastsD l)) (hy : IsD w y (pastsD l)) :
  Calls Tryz.prog 178 #[x, y] w fun e w' => e = .returned (.bool true) ∧ Below w.heap.size w w' := by
 obtain ⟨a, cap, rfl, h1, h2, h⟩ := IsD.parts (c := 12) (n := l.length) hx
 obtain ⟨a', cap', rfl, h1', h2', h'⟩ := IsD.parts (c := 12) (n := l.length) hy
 have HS : Hid ((pastsD l).wt ≤ 1048576) := hl
 have hl2 : l.length ≤ 1048576 := by rw [pastsD_wt] at hl; omega
 clear h1 h2 h1' h2' hx hy hl
 go_enter Tryz.func178, Tryz.ntmps178
 go_wp2
 go_loopw [5] (fun i wr => ∃ k : Nat, k ≤ l.length ∧ i = .int .i64 k ∧ Below w.heap.size w wr) (fun i _ => l.length - (intOf i).toNat)
 case atStart => exact ⟨0, Nat.zero_le _, rfl, Below.refl _ _⟩
 case round =>
  obtain ⟨k, hk, rfl, hB⟩ := hrel
  have HB : Hid (Below w.heap.size w wr) := hB
  by_cases hlt : k < l.length
  ·obtain ⟨b, off, rfl, hb, hc⟩ := h.resolve_left (by omega)
   obtain ⟨b', off', rfl, hb', hc'⟩ := h'.resolve_left (by omega)
   obtain ⟨u7, u10, u11, f0, f1, f2, f3, f4, f5, f6, f7, f8, f9, f10, f11, d7, d10, d11⟩ := pastsD_in (fun j hj => by
    obtain ⟨u, hu, hd⟩ := hc j hj
    exact ⟨u, (hB.cell (p := ⟨b, off + j, none⟩) hb).trans hu, hd.under hB⟩) hlt
   obtain ⟨v7, v10, v11, e0, e1, e2, e3, e4, e5, e6, e7, e8, e9, e10, e11, g7, g10, g11⟩ := pastsD_in (fun j hj => by
    obtain ⟨u, hu, hd⟩ := hc' j hj
    exact ⟨u, (hB.cell (p := ⟨b', off' + j, none⟩) hb').trans hu, hd.under hB⟩) hlt
   have HD : Hid (IsPast wr.drew (.agg #[.int .i64 (psAt l k).e.t, .int .i64 (psAt l k).e.s, .int .i64 (psAt l k).e.q, .int .i64 (psAt l k).e.d, .int .i64 (psAt l k).e.k, .int .i64 (psAt l k).e.v, .int .i64 (psAt l k).e.g, u7, .int .i64 (psAt l k).b.q, .int .i64 (psAt l k).b.d, u10, u11]) (psAt l k)) := IsPast.under (w := wr) ⟨u7, u10, u11, rfl, d7, d10, d11⟩ (Below.refl _ wr).drew
   have HG : Hid (IsPast wr.drew (.agg #[.int .i64 (psAt l k).e.t, .int .i64 (psAt l k).e.s, .int .i64 (psAt l k).e.q, .int .i64 (psAt l k).e.d, .int .i64 (psAt l k).e.k, .int .i64 (psAt l k).e.v, .int .i64 (psAt l k).e.g, v7, .int .i64 (psAt l k).b.q, .int .i64 (psAt l k).b.d, v10, v11]) (psAt l k)) := IsPast.under (w := wr) ⟨v7, v10, v11, rfl, g7, g10, g11⟩ (Below.refl _ wr).drew
   have HW : Hid ((psAt l k).wt ≤ 1048576) := Nat.le_trans (Ps.wt_le hlt) HS.out
   have hbr : b < wr.heap.size := Nat.lt_of_lt_of_le hb hB.size
   have hbr' : b' < wr.heap.size := Nat.lt_of_lt_of_le hb' hB.size
   clear hB hc hc' h h' d7 d10 d11 g7 g10 g11
   go_wp2_with fail
   go_region_held3 (fun W => W.cell? ⟨b, off + k * 12, none⟩ = some (.int .i64 (psAt l k).e.t) ∧ W.cell? ⟨b, off + k * 12 + 1, none⟩ = some (.int .i64 (psAt l k).e.s) ∧ W.cell? ⟨b, off + k * 12 + 2, none⟩ = some (.int .i64 (psAt l k).e.q) ∧ W.cell? ⟨b, off + k * 12 + 3, none⟩ = some (.int .i64 (psAt l k).e.d) ∧ W.cell? ⟨b, off + k * 12 + 4, none⟩ = some (.int .i64 (psAt l k).e.k) ∧ W.cell? ⟨b, off + k * 12 + 5, none⟩ = some (.int .i64 (psAt l k).e.v) ∧ W.cell? ⟨b, off + k * 12 + 6, none⟩ = some (.int .i64 (psAt l k).e.g) ∧ W.cell? ⟨b, off + k * 12 + 7, none⟩ = some (u7) ∧ W.cell? ⟨b, off + k * 12 + 8, none⟩ = some (.int .i64 (psAt l k).b.q) ∧ W.cell? ⟨b, off + k * 12 + 9, none⟩ = some (.int .i64 (psAt l k).b.d) ∧ W.cell? ⟨b, off + k * 12 + 10, none⟩ = some (u10) ∧ W.cell? ⟨b, off + k * 12 + 11, none⟩ = some (u11) ∧ W.cell? ⟨b', off' + k * 12, none⟩ = some (.int .i64 (psAt l k).e.t) ∧ W.cell? ⟨b', off' + k * 12 + 1, none⟩ = some (.int .i64 (psAt l k).e.s) ∧ W.cell? ⟨b', off' + k * 12 + 2, none⟩ = some (.int .i64 (psAt l k).e.q) ∧ W.cell? ⟨b', off' + k * 12 + 3, none⟩ = some (.int .i64 (psAt l k).e.d) ∧ W.cell? ⟨b', off' + k * 12 + 4, none⟩ = some (.int .i64 (psAt l k).e.k) ∧ W.cell? ⟨b', off' + k * 12 + 5, none⟩ = some (.int .i64 (psAt l k).e.v) ∧ W.cell? ⟨b', off' + k * 12 + 6, none⟩ = some (.int .i64 (psAt l k).e.g) ∧ W.cell? ⟨b', off' + k * 12 + 7, none⟩ = some (v7) ∧ W.cell? ⟨b', off' + k * 12 + 8, none⟩ = some (.int .i64 (psAt l k).b.q) ∧ W.cell? ⟨b', off' + k * 12 + 9, none⟩ = some (.int .i64 (psAt l k).b.d) ∧ W.cell? ⟨b', off' + k * 12 + 10, none⟩ = some (v10) ∧ W.cell? ⟨b', off' + k * 12 + 11, none⟩ = some (v11)) ((repeat' apply And.intro) <;> first | (go_keep; done) | (rw [hcA _ _ (by first | omega | (simp; omega) | simp [*])]; simp [*]; done))
    (first | (go_at_call 197; refine (eqPast_same _ _ (psAt l k) _ HW.out HD.out HG.out).mono ?_; rintro e w2 ⟨rfl, hb2⟩; obtain ⟨hcA, hfA⟩ := bcell hb2))
   clear hcA hfA
   go_wp2
   go_roundw
   case rel => exact ⟨k + 1, by omega, by go_num, HB.out.drew.trans (hb2.mono (by have := HB.out.size; simpa using this))⟩
   case measure => simp [intOf]; omega
  ·clear hB h h'
   go_wp2
   go_ret
   exact ⟨rfl, HB.out⟩
end Go.Proofs.YtnlhcdchmgfipaaGreat

/- szPart, eqPart. -/
namespace Go.Proofs.YtnlhcdchmgfipaaGreat
open Go.RowKit
theorem hidTPtA {p : Prop} (h : p) : Hid p := h
set_option maxHeartbeats 4000000 in
theorem szPart_any (x : Value) (p : Pa) (left : Int) (w : World) (h0 : 0 ≤ left) (h1 : left ≤ 1048576) (h : IsPart w x p) :
  Calls Tryz.prog 108 #[x, .int .i64 left] w fun e w' => (∃ r, e = .returned (.int .i64 r) ∧ SzR p.wt left r) ∧ Below w.heap.size w w' := by
 obtain ⟨u1, u4, u5, u6, rfl, h1, h4, h5, h6⟩ := h
 have H1 := hidTPtA h1
 have H4 := hidTPtA h4
 have H5 := hidTPtA h5
 have H6 := hidTPtA h6
 clear h1 h4 h5 h6
 obtain ⟨W0, hW0⟩ : ∃ W0, w.alloc (.cells #[.int .i64 p.n, u1, .int .i64 p.st.q, .int .i64 p.st.d, u4, u5, u6] 135) = W0 := ⟨_, rfl⟩
 have HB0 : Hid (Below w.heap.size w W0) := by rw [← hW0]; exact (Below.refl _ w).alloc (Nat.le_refl _) _
 have HP0 : Hid (Bk W0 w.heap.size 135 #[.int .i64 p.n, u1, .int .i64 p.st.q, .int .i64 p.st.d, u4, u5, u6]) := by rw [← hW0]; exact Bk.new w _ _
 have HW := hidTPtA hW0
 clear hW0
 go_enter Tryz.func108, Tryz.ntmps108
 have p1 := HP0.out.cell (i := 1) rfl
 have p2 := HP0.out.cell (i := 2) rfl
 have p3 := HP0.out.cell (i := 3) rfl
 go_wp2_with fail
 rw [HW.out]
 clear HW
 clear p1 p2 p3
 refine (szState_R _ p.st _ _ h0 h1 ⟨_, rfl, (H1.out.under HB0.out).isI⟩).mono ?_
 rintro e w1 ⟨⟨r1, rfl, hr⟩, hb⟩
 have HB1 := hidTPtA (HB0.out.trans (hb.mono HB0.out.size))
 have HP1 := hidTPtA (HP0.out.below hb)
 clear hb
 rcases hr with rfl | ⟨r10, hr⟩
 ·go_wp2
  go_ret
  exact ⟨⟨_, rfl, .inl rfl⟩, HB1.out⟩
 have r11 : r1 ≤ 1048576 := by omega
 have r12 : ¬ (r1 < 0) := by omega
 have HR1 := hidTPtA hr
 clear hr
 have p4 := HP1.out.cell (i := 4) rfl
 go_wp2_with fail
 clear p4
 refine (sz_pasts _ p.p _ _ r10 r11 (H4.out.under HB1.out)).mono ?_
 rintro e w2 ⟨⟨r2, rfl, hr⟩, hb⟩
 have HB2 := hidTPtA (HB1.out.trans (hb.mono HB1.out.size))
 have HP2 := hidTPtA (HP1.out.below hb)
 clear hb
 rcases hr with rfl | ⟨r20, hr⟩
 ·go_wp2
  go_ret
  exact ⟨⟨_, rfl, .inl rfl⟩, HB2.out⟩
 have r21 : r2 ≤ 1048576 := by omega
 have r22 : ¬ (r2 < 0) := by omega
 have HR2 := hidTPtA hr
 clear hr
 have p5 := HP2.out.cell (i := 5) rfl
 go_wp2_with fail
 clear p5
 refine (sz_evs _ p.t _ _ r20 r21 (H5.out.under HB2.out)).mono ?_
 rintro e w3 ⟨⟨r3, rfl, hr⟩, hb⟩
 have HB3 := hidTPtA (HB2.out.trans (hb.mono HB2.out.size))
 have HP3 := hidTPtA (HP2.out.below hb)
 clear hb
 rcases hr with rfl | ⟨r30, hr⟩
 ·go_wp2
  go_ret
  exact ⟨⟨_, rfl, .inl rfl⟩, HB3.out⟩
 have r31 : r3 ≤ 1048576 := by omega
 have r32 : ¬ (r3 < 0) := by omega
 have HR3 := hidTPtA hr
 clear hr
 have p6 := HP3.out.cell (i := 6) rfl
 go_wp2_with fail
 clear p6
 refine (sz_ints _ p.a _ _ r30 r31 (H6.out.under HB3.out)).mono ?_
 rintro e w4 ⟨⟨r4, rfl, hr⟩, hb⟩
 have HB4 := hidTPtA (HB3.out.trans (hb.mono HB3.out.size))
 have HP4 := hidTPtA (HP3.out.below hb)
 clear hb
 rcases hr with rfl | ⟨r40, hr⟩
 ·go_wp2
  go_ret
  exact ⟨⟨_, rfl, .inl rfl⟩, HB4.out⟩
 have r41 : r4 ≤ 1048576 := by omega
 have r42 : ¬ (r4 < 0) := by omega
 have HR4 := hidTPtA hr
 clear hr
 go_wp2
 go_ret
 refine ⟨⟨_, rfl, .inr ⟨r40, ?_⟩⟩, HB4.out⟩
 have := HR1.out
 have := HR2.out
 have := HR3.out
 have := HR4.out
 unfold Pa.wt
 omega
set_option maxHeartbeats 4000000 in
theorem eqPart_same (x y : Value) (p : Pa) (w : World) (hw : p.wt ≤ 1048576) (hx : IsPart w x p) (hy : IsPart w y p) :
  Calls Tryz.prog 136 #[x, y] w fun e w' => e = .returned (.bool true) ∧ Below w.heap.size w w' := by
 obtain ⟨u1, u4, u5, u6, rfl, h1, h4, h5, h6⟩ := hx
 obtain ⟨v1, v4, v5, v6, rfl, k1, k4, k5, k6⟩ := hy
 have H1 : Hid (IsD w u1 (intsD p.st.r) ∧ IsD w v1 (intsD p.st.r)) := ⟨h1, k1⟩
 have H4 : Hid (IsD w u4 (pastsD p.p) ∧ IsD w v4 (pastsD p.p)) := ⟨h4, k4⟩
 have H5 : Hid (IsD w u5 (evsD p.t) ∧ IsD w v5 (evsD p.t)) := ⟨h5, k5⟩
 have H6 : Hid (IsD w u6 (intsD p.a) ∧ IsD w v6 (intsD p.a)) := ⟨h6, k6⟩
 have HS : Hid (p.wt ≤ 1048576) := hw
 clear hw h1 k1 h4 k4 h5 k5 h6 k6
 obtain ⟨W0, hW0⟩ : ∃ W0, (w.alloc (.cells #[.int .i64 p.n, u1, .int .i64 p.st.q, .int .i64 p.st.d, u4, u5, u6] 88)).alloc (.cells #[.int .i64 p.n, v1, .int .i64 p.st.q, .int .i64 p.st.d, v4, v5, v6] 88) = W0 := ⟨_, rfl⟩
 have HB0 : Hid (Below w.heap.size w W0) := by rw [← hW0]; exact ((Below.refl _ w).alloc (Nat.le_refl _) _).alloc (by simp) _
 have HP0 : Hid (Bk W0 w.heap.size 88 #[.int .i64 p.n, u1, .int .i64 p.st.q, .int .i64 p.st.d, u4, u5, u6]) := by rw [← hW0]; exact (Bk.new w _ _).alloc _
 have HQ0 : Hid (Bk W0 (w.heap.size + 1) 88 #[.int .i64 p.n, v1, .int .i64 p.st.q, .int .i64 p.st.d, v4, v5, v6]) := by rw [← hW0]; exact Bk.newAt (by simp) _ _
 have HW := hidTPtA hW0
 clear hW0
 go_enter Tryz.func136, Tryz.ntmps136
 have p0 := HP0.out.cell (i := 0) rfl
 have q0 := HQ0.out.cell (i := 0) rfl
 have p1 := HP0.out.cell (i := 1) rfl
 have q1 := HQ0.out.cell (i := 1) rfl
 have p2 := HP0.out.cell (i := 2) rfl
 have q2 := HQ0.out.cell (i := 2) rfl
 have p3 := HP0.out.cell (i := 3) rfl
 have q3 := HQ0.out.cell (i := 3) rfl
 go_wp2_with fail
 rw [HW.out]
 clear HW
 clear p0 q0 p1 q1 p2 q2 p3 q3
 refine (eqState_same _ _ p.st _ (by have := HS.out; unfold Pa.wt at this; simp only [evs_wt, ints_wt] at this; omega) ⟨_, rfl, (H1.out.1.under HB0.out).isI⟩ ⟨_, rfl, (H1.out.2.under HB0.out).isI⟩).mono ?_
 rintro e w1 ⟨rfl, hb⟩
 have HB1 := hidTPtA (HB0.out.trans (hb.mono HB0.out.size))
 have HP1 := hidTPtA (HP0.out.below hb)
 have HQ1 := hidTPtA (HQ0.out.below hb)
 clear hb
 have p4 := HP1.out.cell (i := 4) rfl
 have q4 := HQ1.out.cell (i := 4) rfl
 go_wp2_with fail
 clear p4 q4
 refine (eq_pasts _ _ p.p _ (by have := HS.out; unfold Pa.wt at this; simp only [evs_wt, ints_wt] at this; omega) (H4.out.1.under HB1.out) (H4.out.2.under HB1.out)).mono ?_
 rintro e w2 ⟨rfl, hb⟩
 have HB2 := hidTPtA (HB1.out.trans (hb.mono HB1.out.size))
 have HP2 := hidTPtA (HP1.out.below hb)
 have HQ2 := hidTPtA (HQ1.out.below hb)
 clear hb
 have p5 := HP2.out.cell (i := 5) rfl
 have q5 := HQ2.out.cell (i := 5) rfl
 go_wp2_with fail
 clear p5 q5
 refine (eq_evs _ _ p.t _ (by have := HS.out; unfold Pa.wt at this; simp only [evs_wt, ints_wt] at this; omega) (H5.out.1.under HB2.out) (H5.out.2.under HB2.out)).mono ?_
 rintro e w3 ⟨rfl, hb⟩
 have HB3 := hidTPtA (HB2.out.trans (hb.mono HB2.out.size))
 have HP3 := hidTPtA (HP2.out.below hb)
 have HQ3 := hidTPtA (HQ2.out.below hb)
 clear hb
 have p6 := HP3.out.cell (i := 6) rfl
 have q6 := HQ3.out.cell (i := 6) rfl
 go_wp2_with fail
 clear p6 q6
 refine (eq_ints _ _ p.a _ (by have := HS.out; unfold Pa.wt at this; simp only [evs_wt, ints_wt] at this; omega) (H6.out.1.under HB3.out) (H6.out.2.under HB3.out)).mono ?_
 rintro e w4 ⟨rfl, hb⟩
 have HB4 := hidTPtA (HB3.out.trans (hb.mono HB3.out.size))
 have HP4 := hidTPtA (HP3.out.below hb)
 have HQ4 := hidTPtA (HQ3.out.below hb)
 clear hb
 go_wp2
 go_ret
 exact ⟨rfl, HB4.out⟩
end Go.Proofs.YtnlhcdchmgfipaaGreat

/- szPartS: how much there is. -/
namespace Go.Proofs.YtnlhcdchmgfipaaGreat
open Go.RowKit
set_option maxHeartbeats 4000000 in
theorem sz_parts (x : Value) (l : List Pa) (left : Int) (w : World) (h0 : 0 ≤ left) (h1 : left ≤ 1048576) (h : IsD w x (partsD l)) :
  Calls Tryz.prog 48 #[x, .int .i64 left] w fun e w' => (∃ r, e = .returned (.int .i64 r) ∧ SzR (partsD l).wt left r) ∧ Below w.heap.size w w' := by
 obtain ⟨a, cap, rfl, hn1, hn, h⟩ := IsD.parts (c := 7) (n := l.length) h
 have hn2 : l.length ≤ 9223372036854775807 := by unfold maxLen at hn; omega
 clear hn1 hn
 by_cases hp : left - (l.length : Int) < 0
 ·go_enter Tryz.func48, Tryz.ntmps48
  go_wp2
  go_ret
  exact ⟨⟨_, rfl, .inl rfl⟩, Below.refl _ _⟩
 ·have HLF : Hid (0 ≤ left - (l.length : Int)) := (by omega : 0 ≤ left - (l.length : Int))
  go_enter Tryz.func48, Tryz.ntmps48
  go_wp2
  go_loopw [5, 1] (fun i z wr => ∃ k : Nat, k ≤ l.length ∧ i = .int .i64 k ∧ Below w.heap.size w wr ∧ ∃ lf : Int, z = .int .i64 lf ∧ 0 ≤ lf ∧ lf + (l.length : Int) + (sumL (fun i => (paAt l i).wt) k : Int) = left) (fun i _ _ => l.length - (intOf i).toNat)
  case atStart => exact ⟨0, Nat.zero_le _, rfl, Below.refl _ _, left - (l.length : Int), rfl, HLF.out, by simp [sumL]⟩
  case round =>
   obtain ⟨k, hk, rfl, hB, lf2, rfl, hz0, hz1⟩ := hrel
   have HZ : Hid (lf2 + (l.length : Int) + (sumL (fun i => (paAt l i).wt) k : Int) = left) := hz1
   have HB : Hid (Below w.heap.size w wr) := hB
   have hz2 : lf2 ≤ 1048576 := by omega
   clear hz1
   by_cases hlt : k < l.length
   ·obtain ⟨b, off, rfl, hb, hc⟩ := h.resolve_left (by omega)
    obtain ⟨u1, u4, u5, u6, f0, f1, f2, f3, f4, f5, f6, d1, d4, d5, d6⟩ := partsD_in (fun j hj => by
     obtain ⟨u, hu, hd⟩ := hc j hj
     exact ⟨u, (hB.cell (p := ⟨b, off + j, none⟩) hb).trans hu, hd.under hB⟩) hlt
    have HD : Hid (IsPart wr (.agg #[.int .i64 (paAt l k).n, u1, .int .i64 (paAt l k).st.q, .int .i64 (paAt l k).st.d, u4, u5, u6]) (paAt l k)) := ⟨u1, u4, u5, u6, rfl, d1, d4, d5, d6⟩
    clear h hc hB d1 d4 d5 d6
    go_wp2_with fail
    clear f0 f1 f2 f3 f4 f5 f6
    refine (szPart_any _ (paAt l k) _ _ hz0 hz2 HD.out).mono ?_
    rintro e w2 ⟨⟨r, rfl, hr⟩, hb2⟩
    have HB2 : Hid (Below w.heap.size w w2) := HB.out.trans (hb2.mono HB.out.size)
    clear hb2
    rcases hr with rfl | ⟨r0, hr⟩
    ·go_wp2
     go_ret
     exact ⟨⟨_, rfl, .inl rfl⟩, HB2.out⟩
    ·have HR : Hid (r + ((paAt l k).wt : Int) = lf2) := hr
     have r2 : ¬ (r < 0) := by omega
     clear hr
     go_wp2
     go_roundw
     case rel => exact ⟨k + 1, by omega, by go_num, HB2.out, r, rfl, r0, by have := HR.out; have := HZ.out; simp only [sumL]; omega⟩
     case measure => simp [intOf]; omega
   ·clear h hB
    go_wp2
    go_ret
    obtain rfl : k = l.length := by omega
    exact ⟨⟨_, rfl, .inr ⟨hz0, by rw [partsD_wt]; have := HZ.out; omega⟩⟩, HB.out⟩
end Go.Proofs.YtnlhcdchmgfipaaGreat

/- Mails as plain values and as cells; rows of them: how much there is, two alike, a copy of its own. -/
namespace Go.Proofs.YtnlhcdchmgfipaaGreat
open Go.RowKit
structure Ml where
 e : Ev
 a : Bool
def mlAt (l : List Ml) (i : Nat) : Ml := l.getD i ⟨⟨0, 0, 0, 0, 0, 0, 0⟩, false⟩
def Ml.cs (m : Ml) : List Value := [.int .i64 m.e.t, .int .i64 m.e.s, .int .i64 m.e.q, .int .i64 m.e.d, .int .i64 m.e.k, .int .i64 m.e.v, .int .i64 m.e.g, .bool m.a]
def cellsMl : List Ml → List Value
 | [] => []
 | e :: l => e.cs ++ cellsMl l
theorem mlAt_cons_succ (e : Ml) (l : List Ml) (i : Nat) : mlAt (e :: l) (i + 1) = mlAt l i := by simp [mlAt]
theorem cellsMl_get : ∀ (l : List Ml) (i r : Nat), i < l.length → r < 8 → (cellsMl l)[i * 8 + r]? = (mlAt l i).cs[r]?
 | [], _, _, h, _ => by simp at h
 | e :: l, 0, r, _, hr => by
  have : r < e.cs.length := by simpa [Ml.cs] using hr
  simp only [cellsMl, Nat.zero_mul, Nat.zero_add]
  rw [List.getElem?_append_left this]
  simp [mlAt]
 | e :: l, i + 1, r, h, hr => by
  have h1 := cellsMl_get l i r (by simpa using h) hr
  have : e.cs.length ≤ (i + 1) * 8 + r := by simp [Ml.cs]; omega
  simp only [cellsMl]
  rw [List.getElem?_append_right this, mlAt_cons_succ, ← h1]
  congr 1
  simp [Ml.cs]; omega
structure MlAt (w : World) (b o : Nat) (m : Ml) : Prop where
 f0 : w.cell? ⟨b, o, none⟩ = some (.int .i64 m.e.t)
 f1 : w.cell? ⟨b, o + 1, none⟩ = some (.int .i64 m.e.s)
 f2 : w.cell? ⟨b, o + 2, none⟩ = some (.int .i64 m.e.q)
 f3 : w.cell? ⟨b, o + 3, none⟩ = some (.int .i64 m.e.d)
 f4 : w.cell? ⟨b, o + 4, none⟩ = some (.int .i64 m.e.k)
 f5 : w.cell? ⟨b, o + 5, none⟩ = some (.int .i64 m.e.v)
 f6 : w.cell? ⟨b, o + 6, none⟩ = some (.int .i64 m.e.g)
 f7 : w.cell? ⟨b, o + 7, none⟩ = some (.bool m.a)
theorem MlAt.below {w w' : World} {B b o : Nat} {m : Ml} (h : MlAt w b o m) (hb : Below B w w') (hlt : b < B) : MlAt w' b o m :=
 ⟨(hb.cell hlt).trans h.f0, (hb.cell hlt).trans h.f1, (hb.cell hlt).trans h.f2, (hb.cell hlt).trans h.f3, (hb.cell hlt).trans h.f4, (hb.cell hlt).trans h.f5, (hb.cell hlt).trans h.f6, (hb.cell hlt).trans h.f7⟩
def MlsAt (w : World) (b off : Nat) (l : List Ml) : Prop := b < w.heap.size ∧ ∀ i, i < l.length → MlAt w b (off + i * 8) (mlAt l i)
def IsMl (w : World) (x : Value) (l : List Ml) : Prop := ∃ a cap, x = .slice a l.length cap ∧ l.length ≤ cap ∧ cap ≤ maxLen ∧ (l = [] ∨ ∃ b off, a = some ⟨b, off, none⟩ ∧ MlsAt w b off l)
def mailsD (l : List Ml) : Dat := flat 8 l.length (cellsMl l)
theorem IsMl.isD {w : World} {x : Value} {l : List Ml} (h : IsMl w x l) : IsD w x (mailsD l) := by
 obtain ⟨a, cap, rfl, h1, h2, h⟩ := h
 refine IsD.of_parts h1 h2 (h.imp (fun e => by rw [e]; rfl) ?_)
 rintro ⟨b, off, rfl, hb, hc⟩
 refine ⟨b, off, rfl, hb, fun j hj => ?_⟩
 have hi : j / 8 < l.length := by omega
 have hr : j % 8 < 8 := by omega
 have hE := hc (j / 8) hi
 have hg := cellsMl_get l (j / 8) (j % 8) hi hr
 rw [show j / 8 * 8 + j % 8 = j from by omega] at hg
 have hall : ∀ r, r < 8 → ∃ u, w.cell? ⟨b, off + j / 8 * 8 + r, none⟩ = some u ∧ (mlAt l (j / 8)).cs[r]? = some u := fun r hr => by
  match r, hr with
  | 0, _ => exact ⟨_, hE.f0, rfl⟩
  | 1, _ => exact ⟨_, hE.f1, rfl⟩
  | 2, _ => exact ⟨_, hE.f2, rfl⟩
  | 3, _ => exact ⟨_, hE.f3, rfl⟩
  | 4, _ => exact ⟨_, hE.f4, rfl⟩
  | 5, _ => exact ⟨_, hE.f5, rfl⟩
  | 6, _ => exact ⟨_, hE.f6, rfl⟩
  | 7, _ => exact ⟨_, hE.f7, rfl⟩
 obtain ⟨u, h3, h4⟩ := hall _ hr
 refine ⟨u, by rw [← h3]; congr 2; omega, ?_⟩
 rw [show (cellsMl l).getD j (.int .i64 0) = u from getD_of (hg.trans h4)]
 exact .val _
theorem IsD.isMl {w : World} {x : Value} {l : List Ml} (h : IsD w x (mailsD l)) : IsMl w x l := by
 obtain ⟨a, cap, rfl, h1, h2, h⟩ := IsD.parts (c := 8) (n := l.length) h
 refine ⟨a, cap, rfl, h1, h2, h.imp List.eq_nil_of_length_eq_zero ?_⟩
 rintro ⟨b, off, rfl, hb, hc⟩
 refine ⟨b, off, rfl, hb, fun i hi => ?_⟩
 have hget : ∀ r, r < 8 → w.cell? ⟨b, off + i * 8 + r, none⟩ = (mlAt l i).cs[r]? := fun r hr => by
  obtain ⟨u, hu, hd⟩ := hc (i * 8 + r) (by omega)
  rw [Nat.add_assoc, hu, hd.val_eq]
  have hg := cellsMl_get l i r hi hr
  have : r < (mlAt l i).cs.length := by simpa [Ml.cs] using hr
  rw [List.getElem?_eq_getElem this] at hg ⊢
  rw [getD_of hg]
 exact ⟨hget 0 (by omega), hget 1 (by omega), hget 2 (by omega), hget 3 (by omega), hget 4 (by omega), hget 5 (by omega), hget 6 (by omega), hget 7 (by omega)⟩
theorem mails_wt (l : List Ml) : (mailsD l).wt = l.length := flat_wt _ _ _
set_option maxHeartbeats 400000 in
theorem szMl_any (a : Option Addr) (n cap : Nat) (left : Int) (w : World) (hn : n ≤ maxLen) (h0 : 0 ≤ left) (h1 : left ≤ 1048576) :
  Calls Tryz.prog 49 #[.slice a n cap, .int .i64 left] w fun e w' => e = .returned (.int .i64 (szN n left)) ∧ w' = w := by
 unfold maxLen at hn
 by_cases hp : left - (n : Int) < 0
 ·go_enter Tryz.func49, Tryz.ntmps49
  go_wp2
  go_ret
  exact ⟨ret_int (by unfold szN; rw [if_pos hp]), rfl⟩
 ·go_enter Tryz.func49, Tryz.ntmps49
  go_wp2
  go_ret
  exact ⟨ret_int (by unfold szN; rw [if_neg (by omega)]), rfl⟩
theorem sz_mails (x : Value) (l : List Ml) (left : Int) (w : World) (h0 : 0 ≤ left) (h1 : left ≤ 1048576) (h : IsD w x (mailsD l)) :
  Calls Tryz.prog 49 #[x, .int .i64 left] w fun e w' => (∃ r, e = .returned (.int .i64 r) ∧ SzR (mailsD l).wt left r) ∧ Below w.heap.size w w' := by
 obtain ⟨a, cap, rfl, hn⟩ := IsD.len (c := 8) (n := l.length) h
 refine (szMl_any a l.length cap left w hn h0 h1).mono ?_
 rintro e w' ⟨rfl, rfl⟩
 exact ⟨⟨_, rfl, by rw [mails_wt]; exact szN_R _ _⟩, Below.refl _ _⟩
set_option maxHeartbeats 1000000 in
theorem eqMail_same (t s q d k v g : Int) (b : Bool) (w : World) :
  Calls Tryz.prog 137 #[.agg #[.int .i64 t, .int .i64 s, .int .i64 q, .int .i64 d, .int .i64 k, .int .i64 v, .int .i64 g, .bool b], .agg #[.int .i64 t, .int .i64 s, .int .i64 q, .int .i64 d, .int .i64 k, .int .i64 v, .int .i64 g, .bool b]] w fun e w' => e = .returned (.bool true) ∧ Below w.heap.size w w' := by
 obtain ⟨W0, hW0⟩ : ∃ V, (w.alloc (.cells #[.int .i64 t, .int .i64 s, .int .i64 q, .int .i64 d, .int .i64 k, .int .i64 v, .int .i64 g, .bool b] 91)).alloc (.cells #[.int .i64 t, .int .i64 s, .int .i64 q, .int .i64 d, .int .i64 k, .int .i64 v, .int .i64 g, .bool b] 91) = V := ⟨_, rfl⟩
 have hb0 : Below w.heap.size w W0 := hW0 ▸ ((Below.refl _ w).alloc (Nat.le_refl _) _).alloc (by simp) _
 have HB0 : Hid (Below w.heap.size w W0) := hb0
 have B1 : Hid (Bk W0 w.heap.size 91 #[.int .i64 t, .int .i64 s, .int .i64 q, .int .i64 d, .int .i64 k, .int .i64 v, .int .i64 g, .bool b]) := hW0 ▸ (Bk.new w _ _).alloc _
 have B2 : Hid (Bk W0 (w.heap.size + 1) 91 #[.int .i64 t, .int .i64 s, .int .i64 q, .int .i64 d, .int .i64 k, .int .i64 v, .int .i64 g, .bool b]) := hW0 ▸ Bk.newAt (by simp) _ _
 clear hb0
 have x0 := B1.out.cell (i := 0) rfl
 have x1 := B1.out.cell (i := 1) rfl
 have x2 := B1.out.cell (i := 2) rfl
 have x3 := B1.out.cell (i := 3) rfl
 have x4 := B1.out.cell (i := 4) rfl
 have x5 := B1.out.cell (i := 5) rfl
 have x6 := B1.out.cell (i := 6) rfl
 have y0 := B2.out.cell (i := 0) rfl
 have y1 := B2.out.cell (i := 1) rfl
 have y2 := B2.out.cell (i := 2) rfl
 have y3 := B2.out.cell (i := 3) rfl
 have y4 := B2.out.cell (i := 4) rfl
 have y5 := B2.out.cell (i := 5) rfl
 have y6 := B2.out.cell (i := 6) rfl
 go_enter Tryz.func137, Tryz.ntmps137
 go_wp2_with fail
 clear hW0 x0 y0 x1 y1 x2 y2 x3 y3 x4 y4 x5 y5 x6 y6
 refine (eqEvent_same _ _ _ _ _ _ _ _).mono ?_
 rintro r w1 ⟨rfl, hb⟩
 have x7 := (B1.out.below hb).cell (i := 7) rfl
 have y7 := (B2.out.below hb).cell (i := 7) rfl
 have HB1 : Hid (Below w.heap.size w w1) := HB0.out.trans (hb.mono HB0.out.size)
 clear hb
 cases b <;> (go_wp2; go_ret; exact ⟨rfl, HB1.out⟩)
set_option maxHeartbeats 1000000 in
theorem eqMl_same (x y : Value) (l : List Ml) (w : World) (hl : l.length ≤ 1048576) (hx : IsMl w x l) (hy : IsMl w y l) :
  Calls Tryz.prog 74 #[x, y] w fun e w' => e = .returned (.bool true) ∧ Below w.heap.size w w' := by
 obtain ⟨a, cap, rfl, h1, h2, h⟩ := hx
 obtain ⟨a', cap', rfl, h1', h2', h'⟩ := hy
 clear h1 h2 h1' h2'
 by_cases hz : l = []
 ·subst hz
  clear h h'
  go_enter Tryz.func74, Tryz.ntmps74
  go_wp2
  go_loop [5] (fun i => i = .int .i64 0) (fun _ => 0)
  case atStart => rfl
  case round =>
   subst hrel
   go_wp2
   go_ret
   exact ⟨rfl, Below.refl _ _⟩
 ·obtain ⟨b, off, rfl, hb, hc⟩ := h.resolve_left hz
  obtain ⟨b', off', rfl, hb', hc'⟩ := h'.resolve_left hz
  clear h h' hz
  go_enter Tryz.func74, Tryz.ntmps74
  go_wp2
  go_loopw [5] (fun i wr => ∃ k : Nat, k ≤ l.length ∧ i = .int .i64 k ∧ Below w.heap.size w wr) (fun i _ => l.length - (intOf i).toNat)
  case atStart => exact ⟨0, Nat.zero_le _, rfl, Below.refl _ _⟩
  case round =>
   obtain ⟨k, hk, rfl, hB⟩ := hrel
   have HB : Hid (Below w.heap.size w wr) := hB
   by_cases hlt : k < l.length
   ·obtain ⟨f0, f1, f2, f3, f4, f5, f6, f7⟩ := (hc k hlt).below hB hb
    obtain ⟨e0, e1, e2, e3, e4, e5, e6, e7⟩ := (hc' k hlt).below hB hb'
    have hbr : b < wr.heap.size := Nat.lt_of_lt_of_le hb hB.size
    have hbr' : b' < wr.heap.size := Nat.lt_of_lt_of_le hb' hB.size
    clear hB hc hc'
    go_wp2_with fail
    go_region_held3 (fun W => W.cell? ⟨b, off + k * 8, none⟩ = some (.int .i64 (mlAt l k).e.t) ∧ W.cell? ⟨b, off + k * 8 + 1, none⟩ = some (.int .i64 (mlAt l k).e.s) ∧ W.cell? ⟨b, off + k * 8 + 2, none⟩ = some (.int .i64 (mlAt l k).e.q) ∧ W.cell? ⟨b, off + k * 8 + 3, none⟩ = some (.int .i64 (mlAt l k).e.d) ∧ W.cell? ⟨b, off + k * 8 + 4, none⟩ = some (.int .i64 (mlAt l k).e.k) ∧ W.cell? ⟨b, off + k * 8 + 5, none⟩ = some (.int .i64 (mlAt l k).e.v) ∧ W.cell? ⟨b, off + k * 8 + 6, none⟩ = some (.int .i64 (mlAt l k).e.g) ∧ W.cell? ⟨b, off + k * 8 + 7, none⟩ = some (.bool (mlAt l k).a) ∧ W.cell? ⟨b', off' + k * 8, none⟩ = some (.int .i64 (mlAt l k).e.t) ∧ W.cell? ⟨b', off' + k * 8 + 1, none⟩ = some (.int .i64 (mlAt l k).e.s) ∧ W.cell? ⟨b', off' + k * 8 + 2, none⟩ = some (.int .i64 (mlAt l k).e.q) ∧ W.cell? ⟨b', off' + k * 8 + 3, none⟩ = some (.int .i64 (mlAt l k).e.d) ∧ W.cell? ⟨b', off' + k * 8 + 4, none⟩ = some (.int .i64 (mlAt l k).e.k) ∧ W.cell? ⟨b', off' + k * 8 + 5, none⟩ = some (.int .i64 (mlAt l k).e.v) ∧ W.cell? ⟨b', off' + k * 8 + 6, none⟩ = some (.int .i64 (mlAt l k).e.g) ∧ W.cell? ⟨b', off' + k * 8 + 7, none⟩ = some (.bool (mlAt l k).a)) ((repeat' apply And.intro) <;> first | (go_keep; done) | (rw [hcA _ _ (by first | omega | (simp; omega) | simp [*])]; simp [*]; done))
     (first | (go_at_call 137; refine (eqMail_same _ _ _ _ _ _ _ _ _).mono ?_; rintro e w2 ⟨rfl, hb2⟩; obtain ⟨hcA, hfA⟩ := bcell hb2))
    clear hcA hfA
    go_wp2
    go_roundw
    case rel => exact ⟨k + 1, by omega, by go_num, HB.out.drew.trans (hb2.mono (by have := HB.out.size; simpa using this))⟩
    case measure => simp [intOf]; omega
   ·clear hB hc hc'
    go_wp2
    go_ret
    exact ⟨rfl, HB.out⟩
theorem eq_mails (x y : Value) (l : List Ml) (w : World) (hl : l.length ≤ 1048576) (hx : IsD w x (mailsD l)) (hy : IsD w y (mailsD l)) :
  Calls Tryz.prog 74 #[x, y] w fun e w' => e = .returned (.bool true) ∧ Below w.heap.size w w' :=
 eqMl_same x y l w hl hx.isMl hy.isMl
end Go.Proofs.YtnlhcdchmgfipaaGreat

