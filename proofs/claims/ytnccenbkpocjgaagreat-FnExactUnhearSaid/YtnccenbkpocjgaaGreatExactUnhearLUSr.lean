/- USr -/
import Derived.Test.YtnccenbkpocjgaaGreatExactUnhearG15
import Derived.Test.YtnccenbkpocjgaaGreatExactHearLPOwn
/- The specification's Unhear. -/
namespace Go.Proofs.YtnccenbkpocjgaaGreat
open Go.RowKit
theorem hidUSr {p : Prop} (h : p) : Hid p := h
set_option maxRecDepth 100000 in
set_option maxHeartbeats 32000000 in
theorem sUnhear (x : Value) (p : Pa) (e : Ev) (w : World) (hw : p.wt ≤ 1048576) (h : IsPart w x p) :
  Calls Tryz.prog 24 #[x, .agg #[.int .i64 e.t, .int .i64 e.s, .int .i64 e.q, .int .i64 e.d, .int .i64 e.k, .int .i64 e.v, .int .i64 e.g]] w fun r w' => AnsH w w' r (unhA p e) (unhB p e) (unhC p e) := by
 have HI : Hid (IsPart w x p) := h
 have HWT : Hid (p.wt ≤ 1048576) := hw
 obtain ⟨u1, u4, u5, u6, rfl, d1, d4, d5, d6⟩ := h
 obtain ⟨W0, hW0⟩ : ∃ W0, ((w.alloc (.cells #[.int .i64 p.n, u1, .int .i64 p.st.q, .int .i64 p.st.d, u4, u5, u6] 33)).alloc (.cells #[.int .i64 e.t, .int .i64 e.s, .int .i64 e.q, .int .i64 e.d, .int .i64 e.k, .int .i64 e.v, .int .i64 e.g] 55)).alloc (.cells #[.int .i64 0, .slice none 0 0, .int .i64 0, .int .i64 0, .slice none 0 0, .slice none 0 0, .slice none 0 0] 33) = W0 := ⟨_, rfl⟩
 have hz0 : W0.heap.size = w.heap.size + 1 + 1 + 1 := by rw [← hW0]; simp
 have hb0 : Below w.heap.size w W0 := hW0 ▸ (((Below.refl _ w).alloc (Nat.le_refl _) _).alloc (by simp) _).alloc (by simp; omega) _
 have HB0 := hidUSr hb0
 have BX : Hid (Bk W0 w.heap.size 33 #[.int .i64 p.n, u1, .int .i64 p.st.q, .int .i64 p.st.d, u4, u5, u6]) := hW0 ▸ ((Bk.new w _ _).alloc _).alloc _
 have BE : Hid (Bk W0 (w.heap.size + 1) 55 #[.int .i64 e.t, .int .i64 e.s, .int .i64 e.q, .int .i64 e.d, .int .i64 e.k, .int .i64 e.v, .int .i64 e.g]) := hW0 ▸ (Bk.newAt (by simp) _ _).alloc _
 have BZ : Hid (Bk W0 (w.heap.size + 1 + 1) 33 #[.int .i64 0, .slice none 0 0, .int .i64 0, .int .i64 0, .slice none 0 0, .slice none 0 0, .slice none 0 0]) := hW0 ▸ Bk.newAt (by simp) _ _
 have hz0' : W0.heap.size ≤ w.heap.size + 1 + 1 + 1 ∧ w.heap.size + 1 + 1 + 1 ≤ W0.heap.size := by omega
 clear hb0 d1 d4 d5 d6 hw hz0
 have x0 := BX.out.cell (i := 0) rfl
 have x1 := BX.out.cell (i := 1) rfl
 have x2 := BX.out.cell (i := 2) rfl
 have x3 := BX.out.cell (i := 3) rfl
 have x4 := BX.out.cell (i := 4) rfl
 have x5 := BX.out.cell (i := 5) rfl
 have x6 := BX.out.cell (i := 6) rfl
 go_enter Tryz.func24, Tryz.ntmps24
 go_wp2_with fail
 clear hW0 x0 x1 x2 x3 x4 x5 x6
 refine (sPartOk_is _ p _ HWT.out (HI.out.under HB0.out)).mono ?_
 rintro r w1 ⟨rfl, hb⟩
 have HB1 := hidUSr (HB0.out.trans (hb.mono HB0.out.size))
 have hs1 : W0.heap.size ≤ w1.heap.size := hb.size
 have X1 := hidUSr (BX.out.below hb)
 have E1 := hidUSr (BE.out.below hb)
 have Z1 := hidUSr (BZ.out.below hb)
 clear hb BX BE BZ
 cases hok : p.ok
 case false =>
  have HNO : Hid (¬ unhOk p e = true) := fun h => by have h1 := (unhOk_iff.1 h).1; rw [hok] at h1; cases h1
  have ZN := Z1
  have BN := HB1
  clear hok
  have z0 := ZN.out.cell (i := 0) rfl
  have z1 := ZN.out.cell (i := 1) rfl
  have z2 := ZN.out.cell (i := 2) rfl
  have z3 := ZN.out.cell (i := 3) rfl
  have z4 := ZN.out.cell (i := 4) rfl
  have z5 := ZN.out.cell (i := 5) rfl
  have z6 := ZN.out.cell (i := 6) rfl
  have zf := ZN.out.free
  obtain ⟨X5, hX5⟩ : ∃ X5, put7s w1 (w.heap.size + 1 + 1) (.int .i64 0) (.slice none 0 0) (.int .i64 0) (.int .i64 0) (.slice none 0 0) (.slice none 0 0) (.slice none 0 0) = X5 := ⟨_, rfl⟩
  have hP := ZN.out.put7s (.int .i64 0) (.slice none 0 0) (.int .i64 0) (.int .i64 0) (.slice none 0 0) (.slice none 0 0) (.slice none 0 0)
  have ht := put7s_turns w1 (w.heap.size + 1 + 1) (.int .i64 0) (.slice none 0 0) (.int .i64 0) (.int .i64 0) (.slice none 0 0) (.slice none 0 0) (.slice none 0 0)
  rw [hX5] at hP ht
  unfold put7s at hX5
  have HX5 : Hid _ := hX5
  have HP5 := hidUSr hP
  have HT5 := hidUSr ht
  clear hX5 hP ht
  go_wp2
  try rw [HX5.out]
  have t0 := HP5.out.cell (i := 0) rfl
  have t1 := HP5.out.cell (i := 1) rfl
  have t2 := HP5.out.cell (i := 2) rfl
  have t3 := HP5.out.cell (i := 3) rfl
  have t4 := HP5.out.cell (i := 4) rfl
  have t5 := HP5.out.cell (i := 5) rfl
  have t6 := HP5.out.cell (i := 6) rfl
  refine bodyPost_ret (v := .tuple #[.agg #[.int .i64 0, .slice none 0 0, .int .i64 0, .int .i64 0, .slice none 0 0, .slice none 0 0, .slice none 0 0], .slice none 0 0, .bool false]) (by simp [results, Tryz.results24, go_sem, t0, t1, t2, t3, t4, t5, t6]) rfl ?_
  have hA := unh_not (p := p) (e := e) (HNO.out)
  rw [hA.1, hA.2.1, hA.2.2]
  exact ⟨_, _, rfl, BN.out.trans (HT5.out.to_below (fun b e => by omega) BN.out.size), fun _ => False, fun _ => False, none_partF _ _, nilE _, fun _ h => h.elim, fun _ h => h.elim⟩
 have HOK : Hid (p.ok = true) := hok
 clear hok
 have e0 := E1.out.cell (i := 0) rfl
 have e1 := E1.out.cell (i := 1) rfl
 have e2 := E1.out.cell (i := 2) rfl
 have e3 := E1.out.cell (i := 3) rfl
 have e4 := E1.out.cell (i := 4) rfl
 have e5 := E1.out.cell (i := 5) rfl
 have e6 := E1.out.cell (i := 6) rfl
 go_wp2_with fail
 clear e0 e1 e2 e3 e4 e5 e6
 refine (sOk_ev e e.ok rfl _).mono ?_
 rintro r w2 ⟨rfl, hb⟩
 have HB2 := hidUSr (HB1.out.trans (hb.mono HB1.out.size))
 have hs2 : w1.heap.size ≤ w2.heap.size := hb.size
 have X2 := hidUSr (X1.out.below hb)
 have E2 := hidUSr (E1.out.below hb)
 have Z2 := hidUSr (Z1.out.below hb)
 clear hb X1 E1 Z1
 cases hev : e.ok
 case false =>
  have HNO : Hid (¬ unhOk p e = true) := fun h => by have h1 := (unhOk_iff.1 h).2.1; rw [hev] at h1; cases h1
  have ZN := Z2
  have BN := HB2
  clear hev
  have z0 := ZN.out.cell (i := 0) rfl
  have z1 := ZN.out.cell (i := 1) rfl
  have z2 := ZN.out.cell (i := 2) rfl
  have z3 := ZN.out.cell (i := 3) rfl
  have z4 := ZN.out.cell (i := 4) rfl
  have z5 := ZN.out.cell (i := 5) rfl
  have z6 := ZN.out.cell (i := 6) rfl
  have zf := ZN.out.free
  obtain ⟨X5, hX5⟩ : ∃ X5, put7s w2 (w.heap.size + 1 + 1) (.int .i64 0) (.slice none 0 0) (.int .i64 0) (.int .i64 0) (.slice none 0 0) (.slice none 0 0) (.slice none 0 0) = X5 := ⟨_, rfl⟩
  have hP := ZN.out.put7s (.int .i64 0) (.slice none 0 0) (.int .i64 0) (.int .i64 0) (.slice none 0 0) (.slice none 0 0) (.slice none 0 0)
  have ht := put7s_turns w2 (w.heap.size + 1 + 1) (.int .i64 0) (.slice none 0 0) (.int .i64 0) (.int .i64 0) (.slice none 0 0) (.slice none 0 0) (.slice none 0 0)
  rw [hX5] at hP ht
  unfold put7s at hX5
  have HX5 : Hid _ := hX5
  have HP5 := hidUSr hP
  have HT5 := hidUSr ht
  clear hX5 hP ht
  go_wp2
  try rw [HX5.out]
  have t0 := HP5.out.cell (i := 0) rfl
  have t1 := HP5.out.cell (i := 1) rfl
  have t2 := HP5.out.cell (i := 2) rfl
  have t3 := HP5.out.cell (i := 3) rfl
  have t4 := HP5.out.cell (i := 4) rfl
  have t5 := HP5.out.cell (i := 5) rfl
  have t6 := HP5.out.cell (i := 6) rfl
  refine bodyPost_ret (v := .tuple #[.agg #[.int .i64 0, .slice none 0 0, .int .i64 0, .int .i64 0, .slice none 0 0, .slice none 0 0, .slice none 0 0], .slice none 0 0, .bool false]) (by simp [results, Tryz.results24, go_sem, t0, t1, t2, t3, t4, t5, t6]) rfl ?_
  have hA := unh_not (p := p) (e := e) (HNO.out)
  rw [hA.1, hA.2.1, hA.2.2]
  exact ⟨_, _, rfl, BN.out.trans (HT5.out.to_below (fun b e => by omega) BN.out.size), fun _ => False, fun _ => False, none_partF _ _, nilE _, fun _ h => h.elim, fun _ h => h.elim⟩
 have HEV : Hid (e.ok = true) := hev
 have HG : Hid (GoodP p) := Pa.ok_iff.1 HOK.out
 clear hev
 have e3 := E2.out.cell (i := 3) rfl
 have x0 := X2.out.cell (i := 0) rfl
 by_cases hdn : e.d = p.n
 case neg =>
  have HNO : Hid (¬ unhOk p e = true) := fun h => hdn (unhOk_iff.1 h).2.2
  have hdb : (e.d != p.n) = true := by simpa using hdn
  have ZN := Z2
  have BN := HB2
  clear hdn
  have z0 := ZN.out.cell (i := 0) rfl
  have z1 := ZN.out.cell (i := 1) rfl
  have z2 := ZN.out.cell (i := 2) rfl
  have z3 := ZN.out.cell (i := 3) rfl
  have z4 := ZN.out.cell (i := 4) rfl
  have z5 := ZN.out.cell (i := 5) rfl
  have z6 := ZN.out.cell (i := 6) rfl
  have zf := ZN.out.free
  obtain ⟨X5, hX5⟩ : ∃ X5, put7s w2 (w.heap.size + 1 + 1) (.int .i64 0) (.slice none 0 0) (.int .i64 0) (.int .i64 0) (.slice none 0 0) (.slice none 0 0) (.slice none 0 0) = X5 := ⟨_, rfl⟩
  have hP := ZN.out.put7s (.int .i64 0) (.slice none 0 0) (.int .i64 0) (.int .i64 0) (.slice none 0 0) (.slice none 0 0) (.slice none 0 0)
  have ht := put7s_turns w2 (w.heap.size + 1 + 1) (.int .i64 0) (.slice none 0 0) (.int .i64 0) (.int .i64 0) (.slice none 0 0) (.slice none 0 0) (.slice none 0 0)
  rw [hX5] at hP ht
  unfold put7s at hX5
  have HX5 : Hid _ := hX5
  have HP5 := hidUSr hP
  have HT5 := hidUSr ht
  clear hX5 hP ht
  go_wp2
  try rw [HX5.out]
  have t0 := HP5.out.cell (i := 0) rfl
  have t1 := HP5.out.cell (i := 1) rfl
  have t2 := HP5.out.cell (i := 2) rfl
  have t3 := HP5.out.cell (i := 3) rfl
  have t4 := HP5.out.cell (i := 4) rfl
  have t5 := HP5.out.cell (i := 5) rfl
  have t6 := HP5.out.cell (i := 6) rfl
  refine bodyPost_ret (v := .tuple #[.agg #[.int .i64 0, .slice none 0 0, .int .i64 0, .int .i64 0, .slice none 0 0, .slice none 0 0, .slice none 0 0], .slice none 0 0, .bool false]) (by simp [results, Tryz.results24, go_sem, t0, t1, t2, t3, t4, t5, t6]) rfl ?_
  have hA := unh_not (p := p) (e := e) (HNO.out)
  rw [hA.1, hA.2.1, hA.2.2]
  exact ⟨_, _, rfl, BN.out.trans (HT5.out.to_below (fun b e => by omega) BN.out.size), fun _ => False, fun _ => False, none_partF _ _, nilE _, fun _ h => h.elim, fun _ h => h.elim⟩
 have HDN : Hid (e.d = p.n) := hdn
 have hdb : (e.d != p.n) = false := by simpa using hdn
 have HYES : Hid (unhOk p e = true) := unhOk_iff.2 ⟨HOK.out, HEV.out, HDN.out⟩
 clear hdn x0 e3
 have x0 := X2.out.cell (i := 0) rfl
 have x1 := X2.out.cell (i := 1) rfl
 have x2 := X2.out.cell (i := 2) rfl
 have x3 := X2.out.cell (i := 3) rfl
 have x4 := X2.out.cell (i := 4) rfl
 have x5 := X2.out.cell (i := 5) rfl
 have x6 := X2.out.cell (i := 6) rfl
 have e0 := E2.out.cell (i := 0) rfl
 have e1 := E2.out.cell (i := 1) rfl
 have e2 := E2.out.cell (i := 2) rfl
 have e3 := E2.out.cell (i := 3) rfl
 have e4 := E2.out.cell (i := 4) rfl
 have e5 := E2.out.cell (i := 5) rfl
 have e6 := E2.out.cell (i := 6) rfl
 go_wp2_with fail
 clear hdb e0 x0 e1 x1 e2 x2 e3 x3 e4 x4 e5 x5 e6 x6
 refine (l4unhear_any _ p e _ HWT.out HG.out (HI.out.under HB2.out)).mono ?_
 rintro r w4 ⟨y1, y2, rfl, hp, hd, hb⟩
 have HB4 := hidUSr (HB2.out.trans (hb.mono HB2.out.size))
 have hs4 : w2.heap.size ≤ w4.heap.size := hb.size
 have Z4 := hidUSr (Z2.out.below hb)
 have X4 := hidUSr (X2.out.below hb)
 obtain ⟨A, hA0⟩ : ∃ A, unhQ p e = A := ⟨_, rfl⟩
 obtain ⟨L, hL0⟩ : ∃ L, unhU p e = L := ⟨_, rfl⟩
 have hAw : A.wt ≤ 1048576 := hA0 ▸ Nat.le_trans (unhQ_wt HG.out) (by omega)
 have hLw : L.length ≤ 1048576 := hL0 ▸ Nat.le_trans (unhU_len HG.out) (by omega)
 have HAL : Hid (unhQ p e = A ∧ unhU p e = L) := ⟨hA0, hL0⟩
 rw [hA0] at hp
 rw [hL0] at hd
 clear hA0 hL0
 have HP3 : Hid (IsPart w4 y1 A) := hp
 have HD3 : Hid (IsEvs w4 y2 L) := hd
 have HAW : Hid (A.wt ≤ 1048576) := hAw
 obtain ⟨v1, v4, v5, v6, rfl, j1, j4, j5, j6⟩ := hp
 obtain ⟨a1, c1, rfl, _⟩ := IsD.len j1
 obtain ⟨a4, c4, rfl, _⟩ := IsD.len j4
 obtain ⟨a5, c5, rfl, _⟩ := IsD.len j5
 obtain ⟨a6, c6, rfl, _⟩ := IsD.len j6
 clear j1 j4 j5 j6 hAw
 obtain ⟨a2, c2, rfl, _⟩ := id hd
 clear hd hb X2 E2 Z2
 obtain ⟨W5, hW5⟩ : ∃ V, w4.alloc (.cells #[.int .i64 A.n, .slice a1 A.st.r.length c1, .int .i64 A.st.q, .int .i64 A.st.d, .slice a4 A.p.length c4, .slice a5 A.t.length c5, .slice a6 A.a.length c6] 33) = V := ⟨_, rfl⟩
 have hb5 : Below w4.heap.size w4 W5 := hW5 ▸ (Below.refl _ w4).alloc (Nat.le_refl _) _
 have HB45 := hidUSr hb5
 have Q5 : Hid (Bk W5 w4.heap.size 33 #[.int .i64 A.n, .slice a1 A.st.r.length c1, .int .i64 A.st.q, .int .i64 A.st.d, .slice a4 A.p.length c4, .slice a5 A.t.length c5, .slice a6 A.a.length c6]) := hW5 ▸ Bk.new w4 _ _
 have Z5 := hidUSr (Z4.out.below hb5)
 have X5' : Hid (Bk W5 w.heap.size 33 #[.int .i64 p.n, u1, .int .i64 p.st.q, .int .i64 p.st.d, u4, u5, u6]) := X4.out.below hb5
 have HB5 := hidUSr (HB4.out.trans (hb5.mono HB4.out.size))
 have hs5 : w4.heap.size < W5.heap.size := Q5.out.lt
 clear hb5 Z4 X4
 have q0 := Q5.out.cell (i := 0) rfl
 have q1 := Q5.out.cell (i := 1) rfl
 have q2 := Q5.out.cell (i := 2) rfl
 have q3 := Q5.out.cell (i := 3) rfl
 have q4 := Q5.out.cell (i := 4) rfl
 have q5 := Q5.out.cell (i := 5) rfl
 have q6 := Q5.out.cell (i := 6) rfl
 go_wp2_with fail
 clear hW5 q0 q1 q2 q3 q4 q5 q6
 refine (sPartOk_is _ A _ HAW.out (HP3.out.under HB45.out)).mono ?_
 rintro r w6 ⟨rfl, hb⟩
 have HB46 := hidUSr (HB45.out.trans (hb.mono HB45.out.size))
 have HB6 := hidUSr (HB5.out.trans (hb.mono HB5.out.size))
 have hs6 : W5.heap.size ≤ w6.heap.size := hb.size
 have Z6 := hidUSr (Z5.out.below hb)
 have X6' : Hid (Bk w6 w.heap.size 33 #[.int .i64 p.n, u1, .int .i64 p.st.q, .int .i64 p.st.d, u4, u5, u6]) := X5'.out.below hb
 have Q6 := hidUSr (Q5.out.below hb)
 clear hb Z5 X5' Q5
 cases hoa : A.ok
 case false =>
  have HOA : Hid (A.ok = false) := hoa
  clear hoa
  have x0 := X6'.out.cell (i := 0) rfl
  have x1 := X6'.out.cell (i := 1) rfl
  have x2 := X6'.out.cell (i := 2) rfl
  have x3 := X6'.out.cell (i := 3) rfl
  have x4 := X6'.out.cell (i := 4) rfl
  have x5 := X6'.out.cell (i := 5) rfl
  have x6 := X6'.out.cell (i := 6) rfl
  go_wp2_with fail
  clear x0 x1 x2 x3 x4 x5 x6
  refine (l4own_any _ p _ (by have := HWT.out; omega) (HI.out.under HB6.out)).mono ?_
  rintro r w7 ⟨y, rfl, hb, hF⟩
  have HB7 := hidUSr (HB6.out.trans (hb.mono HB6.out.size))
  have hs7 : w6.heap.size ≤ w7.heap.size := hb.size
  have Z7' : Hid (Bk w7 (w.heap.size + 1 + 1) 33 #[.int .i64 0, .slice none 0 0, .int .i64 0, .int .i64 0, .slice none 0 0, .slice none 0 0, .slice none 0 0]) := Z6.out.below hb
  have HF7 := hidUSr hF
  obtain ⟨r1, s1, r4, s4, r5, s5, r6, s6, rfl⟩ := PartF.form hF
  clear hb hF Z6 X6' Q6
  have z0 := Z7'.out.cell (i := 0) rfl
  have z1 := Z7'.out.cell (i := 1) rfl
  have z2 := Z7'.out.cell (i := 2) rfl
  have z3 := Z7'.out.cell (i := 3) rfl
  have z4 := Z7'.out.cell (i := 4) rfl
  have z5 := Z7'.out.cell (i := 5) rfl
  have z6 := Z7'.out.cell (i := 6) rfl
  have zf := Z7'.out.free
  obtain ⟨X5, hX5⟩ : ∃ X5, put7s w7 (w.heap.size + 1 + 1) (.int .i64 p.n) (.slice r1 p.st.r.length s1) (.int .i64 p.st.q) (.int .i64 p.st.d) (.slice r4 p.p.length s4) (.slice r5 p.t.length s5) (.slice r6 p.a.length s6) = X5 := ⟨_, rfl⟩
  have hP := Z7'.out.put7s (.int .i64 p.n) (.slice r1 p.st.r.length s1) (.int .i64 p.st.q) (.int .i64 p.st.d) (.slice r4 p.p.length s4) (.slice r5 p.t.length s5) (.slice r6 p.a.length s6)
  have ht := put7s_turns w7 (w.heap.size + 1 + 1) (.int .i64 p.n) (.slice r1 p.st.r.length s1) (.int .i64 p.st.q) (.int .i64 p.st.d) (.slice r4 p.p.length s4) (.slice r5 p.t.length s5) (.slice r6 p.a.length s6)
  rw [hX5] at hP ht
  unfold put7s at hX5
  have HX5 : Hid _ := hX5
  have HP5 := hidUSr hP
  have HT5 := hidUSr ht
  clear hX5 hP ht
  go_wp2
  try rw [HX5.out]
  have t0 := HP5.out.cell (i := 0) rfl
  have t1 := HP5.out.cell (i := 1) rfl
  have t2 := HP5.out.cell (i := 2) rfl
  have t3 := HP5.out.cell (i := 3) rfl
  have t4 := HP5.out.cell (i := 4) rfl
  have t5 := HP5.out.cell (i := 5) rfl
  have t6 := HP5.out.cell (i := 6) rfl
  refine bodyPost_ret (v := .tuple #[.agg #[.int .i64 p.n, .slice r1 p.st.r.length s1, .int .i64 p.st.q, .int .i64 p.st.d, .slice r4 p.p.length s4, .slice r5 p.t.length s5, .slice r6 p.a.length s6], .slice none 0 0, .bool false]) (by simp [results, Tryz.results24, go_sem, t0, t1, t2, t3, t4, t5, t6]) rfl ?_
  obtain ⟨q1, q2, q3⟩ := unh_yes HYES.out
  have hA : unhA p e = p ∧ unhB p e = [] ∧ unhC p e = false := by (rw [q1, q2, q3, HAL.out.1, HAL.out.2]; unfold outA outB; rw [HOA.out]; exact ⟨rfl, rfl, rfl⟩)
  rw [hA.1, hA.2.1, hA.2.2]
  have hsx := HT5.out.size
  exact ⟨_, _, rfl, HB7.out.trans (HT5.out.to_below (fun b e => by omega) HB7.out.size), _, fun _ => False, HF7.out.turns HT5.out (fun b hb e => by omega), nilE _, fun b hb => ⟨by omega, id⟩, fun b hb => hb.elim⟩
 have HOA : Hid (A.ok = true) := hoa
 clear hoa X6'
 have q0 := Q6.out.cell (i := 0) rfl
 have q1 := Q6.out.cell (i := 1) rfl
 have q2 := Q6.out.cell (i := 2) rfl
 have q3 := Q6.out.cell (i := 3) rfl
 have q4 := Q6.out.cell (i := 4) rfl
 have q5 := Q6.out.cell (i := 5) rfl
 have q6 := Q6.out.cell (i := 6) rfl
 go_wp2_with fail
 clear q0 q1 q2 q3 q4 q5 q6
 refine (l4own_any _ A _ (by have := HAW.out; omega) (HP3.out.under HB46.out)).mono ?_
 rintro r w7 ⟨y, rfl, hb, hF⟩
 have HB7 := hidUSr (HB6.out.trans (hb.mono HB6.out.size))
 have hs7 : w6.heap.size ≤ w7.heap.size := hb.size
 have Z7' : Hid (Bk w7 (w.heap.size + 1 + 1) 33 #[.int .i64 0, .slice none 0 0, .int .i64 0, .int .i64 0, .slice none 0 0, .slice none 0 0, .slice none 0 0]) := Z6.out.below hb
 have HF7 := hidUSr hF
 have HD7 := hidUSr ((HD3.out.below HB46.out).below hb)
 obtain ⟨r1, s1, r4, s4, r5, s5, r6, s6, rfl⟩ := PartF.form hF
 clear hb hF Z6 Q6
 go_wp2_with fail
 refine (l1own_src _ L _ (by omega) (SrcC.ofEvs HD7.out)).mono ?_
 rintro r w8 ⟨y2, rfl, ho, hb⟩
 have HF8 := hidUSr (HF7.out.under hb)
 have HO8 := hidUSr (ownE ho)
 have HB8 := hidUSr (HB7.out.trans (hb.mono HB7.out.size))
 have hs8 : w7.heap.size ≤ w8.heap.size := hb.size
 have Z8 := hidUSr (Z7'.out.below hb)
 obtain ⟨a7, c7, rfl⟩ := owns_slice ho
 clear hb ho Z7'
 have z0 := Z8.out.cell (i := 0) rfl
 have z1 := Z8.out.cell (i := 1) rfl
 have z2 := Z8.out.cell (i := 2) rfl
 have z3 := Z8.out.cell (i := 3) rfl
 have z4 := Z8.out.cell (i := 4) rfl
 have z5 := Z8.out.cell (i := 5) rfl
 have z6 := Z8.out.cell (i := 6) rfl
 have zf := Z8.out.free
 obtain ⟨X5, hX5⟩ : ∃ X5, put7s w8 (w.heap.size + 1 + 1) (.int .i64 A.n) (.slice r1 A.st.r.length s1) (.int .i64 A.st.q) (.int .i64 A.st.d) (.slice r4 A.p.length s4) (.slice r5 A.t.length s5) (.slice r6 A.a.length s6) = X5 := ⟨_, rfl⟩
 have hP := Z8.out.put7s (.int .i64 A.n) (.slice r1 A.st.r.length s1) (.int .i64 A.st.q) (.int .i64 A.st.d) (.slice r4 A.p.length s4) (.slice r5 A.t.length s5) (.slice r6 A.a.length s6)
 have ht := put7s_turns w8 (w.heap.size + 1 + 1) (.int .i64 A.n) (.slice r1 A.st.r.length s1) (.int .i64 A.st.q) (.int .i64 A.st.d) (.slice r4 A.p.length s4) (.slice r5 A.t.length s5) (.slice r6 A.a.length s6)
 rw [hX5] at hP ht
 unfold put7s at hX5
 have HX5 : Hid _ := hX5
 have HP5 := hidUSr hP
 have HT5 := hidUSr ht
 clear hX5 hP ht
 go_wp2
 try rw [HX5.out]
 have t0 := HP5.out.cell (i := 0) rfl
 have t1 := HP5.out.cell (i := 1) rfl
 have t2 := HP5.out.cell (i := 2) rfl
 have t3 := HP5.out.cell (i := 3) rfl
 have t4 := HP5.out.cell (i := 4) rfl
 have t5 := HP5.out.cell (i := 5) rfl
 have t6 := HP5.out.cell (i := 6) rfl
 refine bodyPost_ret (v := .tuple #[.agg #[.int .i64 A.n, .slice r1 A.st.r.length s1, .int .i64 A.st.q, .int .i64 A.st.d, .slice r4 A.p.length s4, .slice r5 A.t.length s5, .slice r6 A.a.length s6], .slice a7 L.length c7, .bool true]) (by simp [results, Tryz.results24, go_sem, t0, t1, t2, t3, t4, t5, t6]) rfl ?_
 obtain ⟨q1, q2, q3⟩ := unh_yes HYES.out
 have hA : unhA p e = A ∧ unhB p e = L ∧ unhC p e = true := by (rw [q1, q2, q3, HAL.out.1, HAL.out.2]; unfold outA outB; rw [HOA.out]; exact ⟨rfl, rfl, rfl⟩)
 rw [hA.1, hA.2.1, hA.2.2]
 have hsx := HT5.out.size
 exact ⟨_, _, rfl, HB8.out.trans (HT5.out.to_below (fun b e => by omega) HB8.out.size), _, _, HF8.out.turns HT5.out (fun b hb e => by omega), HO8.out.turns HT5.out (fun b hb e => by omega), fun b hb => ⟨by omega, fun hg => by omega⟩, fun b hb => by omega⟩
end Go.Proofs.YtnccenbkpocjgaaGreat
