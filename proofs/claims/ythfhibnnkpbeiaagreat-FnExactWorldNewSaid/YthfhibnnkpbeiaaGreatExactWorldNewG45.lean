/- TPpB, KKe -/
import Derived.Test.YthfhibnnkpbeiaaGreatExactWorldNewG06
import Derived.Deep.RegionHeld3
/- eqPartS: two rows alike. -/
namespace Go.Proofs.YthfhibnnkpbeiaaGreat
open Go.RowKit
theorem hidTPpB {p : Prop} (h : p) : Hid p := h
set_option maxHeartbeats 8000000 in
theorem eq_parts (x y : Value) (l : List Pa) (w : World) (hl : (partsD l).wt ≤ 1048576) (hx : IsD w x (partsD l)) (hy : IsD w y (partsD l)) :
  Calls Tryz.prog 36 #[x, y] w fun e w' => e = .returned (.bool true) ∧ Below w.heap.size w w' := by
 obtain ⟨a, cap, rfl, h1, h2, h⟩ := IsD.parts (c := 7) (n := l.length) hx
 obtain ⟨a', cap', rfl, h1', h2', h'⟩ := IsD.parts (c := 7) (n := l.length) hy
 have HS := hidTPpB hl
 have hl2 : l.length ≤ 1048576 := by rw [partsD_wt] at hl; omega
 clear h1 h2 h1' h2' hx hy hl
 go_enter Tryz.func36, Tryz.ntmps36
 go_wp2
 go_loopw [5] (fun i wr => ∃ k : Nat, k ≤ l.length ∧ i = .int .i64 k ∧ Below w.heap.size w wr) (fun i _ => l.length - (intOf i).toNat)
 case atStart => exact ⟨0, Nat.zero_le _, rfl, Below.refl _ _⟩
 case round =>
  obtain ⟨k, hk, rfl, hB⟩ := hrel
  have HB := hidTPpB hB
  by_cases hlt : k < l.length
  ·obtain ⟨b, off, rfl, hb, hc⟩ := h.resolve_left (by omega)
   obtain ⟨b', off', rfl, hb', hc'⟩ := h'.resolve_left (by omega)
   obtain ⟨u1, u4, u5, u6, f0, f1, f2, f3, f4, f5, f6, d1, d4, d5, d6⟩ := partsD_in (fun j hj => by
    obtain ⟨u, hu, hd⟩ := hc j hj
    exact ⟨u, (hB.cell (p := ⟨b, off + j, none⟩) hb).trans hu, hd.under hB⟩) hlt
   obtain ⟨v1, v4, v5, v6, e0, e1, e2, e3, e4, e5, e6, g1, g4, g5, g6⟩ := partsD_in (fun j hj => by
    obtain ⟨u, hu, hd⟩ := hc' j hj
    exact ⟨u, (hB.cell (p := ⟨b', off' + j, none⟩) hb').trans hu, hd.under hB⟩) hlt
   have HD := hidTPpB (IsPart.under (w := wr) ⟨u1, u4, u5, u6, rfl, d1, d4, d5, d6⟩ (Below.refl _ wr).drew)
   have HG := hidTPpB (IsPart.under (w := wr) ⟨v1, v4, v5, v6, rfl, g1, g4, g5, g6⟩ (Below.refl _ wr).drew)
   have HW := hidTPpB (Nat.le_trans (Pa.wt_le hlt) HS.out)
   have hbr : b < wr.heap.size := Nat.lt_of_lt_of_le hb hB.size
   have hbr' : b' < wr.heap.size := Nat.lt_of_lt_of_le hb' hB.size
   clear hB hc hc' h h' d1 d4 d5 d6 g1 g4 g5 g6
   go_wp2_with fail
   go_region_held3 (fun W => W.cell? ⟨b, off + k * 7, none⟩ = some (.int .i64 (paAt l k).n) ∧ W.cell? ⟨b, off + k * 7 + 1, none⟩ = some (u1) ∧ W.cell? ⟨b, off + k * 7 + 2, none⟩ = some (.int .i64 (paAt l k).st.q) ∧ W.cell? ⟨b, off + k * 7 + 3, none⟩ = some (.int .i64 (paAt l k).st.d) ∧ W.cell? ⟨b, off + k * 7 + 4, none⟩ = some (u4) ∧ W.cell? ⟨b, off + k * 7 + 5, none⟩ = some (u5) ∧ W.cell? ⟨b, off + k * 7 + 6, none⟩ = some (u6) ∧ W.cell? ⟨b', off' + k * 7, none⟩ = some (.int .i64 (paAt l k).n) ∧ W.cell? ⟨b', off' + k * 7 + 1, none⟩ = some (v1) ∧ W.cell? ⟨b', off' + k * 7 + 2, none⟩ = some (.int .i64 (paAt l k).st.q) ∧ W.cell? ⟨b', off' + k * 7 + 3, none⟩ = some (.int .i64 (paAt l k).st.d) ∧ W.cell? ⟨b', off' + k * 7 + 4, none⟩ = some (v4) ∧ W.cell? ⟨b', off' + k * 7 + 5, none⟩ = some (v5) ∧ W.cell? ⟨b', off' + k * 7 + 6, none⟩ = some (v6)) ((repeat' apply And.intro) <;> first | (go_keep; done) | (rw [hcA _ _ (by first | omega | (simp; omega) | simp [*])]; simp [*]; done))
    (first | (go_at_call 83; refine (eqPart_same _ _ (paAt l k) _ HW.out HD.out HG.out).mono ?_; rintro e w2 ⟨rfl, hb2⟩; obtain ⟨hcA, hfA⟩ := bcell hb2))
   clear hcA hfA
   go_wp2
   go_roundw
   case rel => exact ⟨k + 1, by omega, by go_num, HB.out.drew.trans (hb2.mono (by have := HB.out.size; simpa using this))⟩
   case measure => simp [intOf]; omega
  ·clear hB h h'
   go_wp2
   go_ret
   exact ⟨rfl, HB.out⟩
end Go.Proofs.YthfhibnnkpbeiaaGreat

/- Two kernels alike. -/
namespace Go.Proofs.YthfhibnnkpbeiaaGreat
open Go.RowKit
theorem hidKKe {p : Prop} (h : p) : Hid p := h
set_option maxRecDepth 100000 in
set_option maxHeartbeats 4000000 in
theorem eqKernel_same (x y : Value) (k : Kn) (w : World) (hs : SmallK k) (hx : IsKern w x k) (hy : IsKern w y k) :
  Calls Tryz.prog 10 #[x, y] w fun e w' => e = .returned (.bool true) ∧ Below w.heap.size w w' := by
 obtain ⟨vi, vh, vs, u6, u7, u8, u12, u13, rfl, hm, h6, h7, h8, h12, h13⟩ := hx
 obtain ⟨xvi, xvh, xvs, v6, v7, v8, v12, v13, rfl, jm, j6, j7, j8, j12, j13⟩ := hy
 have HS : Hid (SmallK k) := hs
 have HM : Hid (IsM w (.agg #[.int .i64 k.m.n, .int .i64 k.m.s, vi, vh, vs, .int .i64 k.m.z]) k.m ∧ IsM w (.agg #[.int .i64 k.m.n, .int .i64 k.m.s, xvi, xvh, xvs, .int .i64 k.m.z]) k.m) := ⟨hm, jm⟩
 have H6 : Hid (IsD w u6 (intsD k.d) ∧ IsD w v6 (intsD k.d)) := ⟨h6, j6⟩
 have H7 : Hid (IsD w u7 (partsD k.p) ∧ IsD w v7 (partsD k.p)) := ⟨h7, j7⟩
 have H8 : Hid (IsD w u8 (mailsD k.b) ∧ IsD w v8 (mailsD k.b)) := ⟨h8, j8⟩
 have H12 : Hid (IsD w u12 (evsD k.s) ∧ IsD w v12 (evsD k.s)) := ⟨h12, j12⟩
 have H13 : Hid (IsD w u13 (emsD k.x) ∧ IsD w v13 (emsD k.x)) := ⟨h13, j13⟩
 clear hs hm jm h6 j6 h7 j7 h8 j8 h12 j12 h13 j13
 obtain ⟨W0, hW0⟩ : ∃ W0, (w.alloc (.cells #[.int .i64 k.m.n, .int .i64 k.m.s, vi, vh, vs, .int .i64 k.m.z, u6, u7, u8, .int .i64 k.t, .int .i64 k.q, .bool k.f, u12, u13] 36)).alloc (.cells #[.int .i64 k.m.n, .int .i64 k.m.s, xvi, xvh, xvs, .int .i64 k.m.z, v6, v7, v8, .int .i64 k.t, .int .i64 k.q, .bool k.f, v12, v13] 36) = W0 := ⟨_, rfl⟩
 have HB0 : Hid (Below w.heap.size w W0) := by rw [← hW0]; exact ((Below.refl _ w).alloc (Nat.le_refl _) _).alloc (by simp) _
 have HP0 : Hid (Bk W0 w.heap.size 36 #[.int .i64 k.m.n, .int .i64 k.m.s, vi, vh, vs, .int .i64 k.m.z, u6, u7, u8, .int .i64 k.t, .int .i64 k.q, .bool k.f, u12, u13]) := by rw [← hW0]; exact (Bk.new w _ _).alloc _
 have HQ0 : Hid (Bk W0 (w.heap.size + 1) 36 #[.int .i64 k.m.n, .int .i64 k.m.s, xvi, xvh, xvs, .int .i64 k.m.z, v6, v7, v8, .int .i64 k.t, .int .i64 k.q, .bool k.f, v12, v13]) := by rw [← hW0]; exact Bk.newAt (by simp) _ _
 have HW := hidKKe hW0
 clear hW0
 go_enter Tryz.func10, Tryz.ntmps10
 have p0 := HP0.out.cell (i := 0) rfl
 have q0 := HQ0.out.cell (i := 0) rfl
 have p1 := HP0.out.cell (i := 1) rfl
 have q1 := HQ0.out.cell (i := 1) rfl
 have p2 := HP0.out.cell (i := 2) rfl
 have q2 := HQ0.out.cell (i := 2) rfl
 have p3 := HP0.out.cell (i := 3) rfl
 have q3 := HQ0.out.cell (i := 3) rfl
 have p4 := HP0.out.cell (i := 4) rfl
 have q4 := HQ0.out.cell (i := 4) rfl
 have p5 := HP0.out.cell (i := 5) rfl
 have q5 := HQ0.out.cell (i := 5) rfl
 go_wp2_with fail
 rw [HW.out]
 clear HW
 clear p0 q0 p1 q1 p2 q2 p3 q3 p4 q4 p5 q5
 refine (eqModel_same _ _ k.m _ HS.out.1 (HM.out.1.below HB0.out) (HM.out.2.below HB0.out)).mono ?_
 rintro e w1 ⟨rfl, hb⟩
 have HB1 := hidKKe (HB0.out.trans (hb.mono HB0.out.size))
 have HP1 := hidKKe (HP0.out.below hb)
 have HQ1 := hidKKe (HQ0.out.below hb)
 clear hb
 have p6 := HP1.out.cell (i := 6) rfl
 have q6 := HQ1.out.cell (i := 6) rfl
 go_wp2_with fail
 clear p6 q6
 refine (eq_ints _ _ k.d _ (by have := HS.out.2; unfold Kn.wt at this; simp only [ints_wt, evs_wt, ems_wt, mails_wt] at this; omega) (H6.out.1.under HB1.out) (H6.out.2.under HB1.out)).mono ?_
 rintro e w2 ⟨rfl, hb⟩
 have HB2 := hidKKe (HB1.out.trans (hb.mono HB1.out.size))
 have HP2 := hidKKe (HP1.out.below hb)
 have HQ2 := hidKKe (HQ1.out.below hb)
 clear hb
 have p7 := HP2.out.cell (i := 7) rfl
 have q7 := HQ2.out.cell (i := 7) rfl
 go_wp2_with fail
 clear p7 q7
 refine (eq_parts _ _ k.p _ (by have := HS.out.2; unfold Kn.wt at this; simp only [ints_wt, evs_wt, ems_wt, mails_wt] at this; omega) (H7.out.1.under HB2.out) (H7.out.2.under HB2.out)).mono ?_
 rintro e w3 ⟨rfl, hb⟩
 have HB3 := hidKKe (HB2.out.trans (hb.mono HB2.out.size))
 have HP3 := hidKKe (HP2.out.below hb)
 have HQ3 := hidKKe (HQ2.out.below hb)
 clear hb
 have p8 := HP3.out.cell (i := 8) rfl
 have q8 := HQ3.out.cell (i := 8) rfl
 go_wp2_with fail
 clear p8 q8
 refine (eq_mails _ _ k.b _ (by have := HS.out.2; unfold Kn.wt at this; simp only [ints_wt, evs_wt, ems_wt, mails_wt] at this; omega) (H8.out.1.under HB3.out) (H8.out.2.under HB3.out)).mono ?_
 rintro e w4 ⟨rfl, hb⟩
 have HB4 := hidKKe (HB3.out.trans (hb.mono HB3.out.size))
 have HP4 := hidKKe (HP3.out.below hb)
 have HQ4 := hidKKe (HQ3.out.below hb)
 clear hb
 have p12 := HP4.out.cell (i := 12) rfl
 have q12 := HQ4.out.cell (i := 12) rfl
 have p9 := HP4.out.cell (i := 9) rfl
 have q9 := HQ4.out.cell (i := 9) rfl
 have p10 := HP4.out.cell (i := 10) rfl
 have q10 := HQ4.out.cell (i := 10) rfl
 have p11 := HP4.out.cell (i := 11) rfl
 have q11 := HQ4.out.cell (i := 11) rfl
 have hff : (k.f != k.f) = false := by cases k.f <;> rfl
 go_wp2_with fail
 clear p12 q12 p9 q9 p10 q10 p11 q11
 refine (eq_evs _ _ k.s _ (by have := HS.out.2; unfold Kn.wt at this; simp only [ints_wt, evs_wt, ems_wt, mails_wt] at this; omega) (H12.out.1.under HB4.out) (H12.out.2.under HB4.out)).mono ?_
 rintro e w5 ⟨rfl, hb⟩
 have HB5 := hidKKe (HB4.out.trans (hb.mono HB4.out.size))
 have HP5 := hidKKe (HP4.out.below hb)
 have HQ5 := hidKKe (HQ4.out.below hb)
 clear hb
 have p13 := HP5.out.cell (i := 13) rfl
 have q13 := HQ5.out.cell (i := 13) rfl
 go_wp2_with fail
 clear p13 q13
 refine (eq_ems _ _ k.x _ (by have := HS.out.2; unfold Kn.wt at this; simp only [ints_wt, evs_wt, ems_wt, mails_wt] at this; omega) (H13.out.1.under HB5.out) (H13.out.2.under HB5.out)).mono ?_
 rintro e w6 ⟨rfl, hb⟩
 have HB6 := hidKKe (HB5.out.trans (hb.mono HB5.out.size))
 have HP6 := hidKKe (HP5.out.below hb)
 have HQ6 := hidKKe (HQ5.out.below hb)
 clear hb
 go_wp2
 go_ret
 exact ⟨rfl, HB6.out⟩
end Go.Proofs.YthfhibnnkpbeiaaGreat

