/- The program's Back. -/
import Derived.Test.YtdcnimdhfhbdmaaExactBackG32
import Derived.Test.YtdcnimdhfhbdmaaExactBackLPGb
import Derived.Test.YtdcnimdhfhbdmaaExactBackG35
import Derived.Test.YtdcnimdhfhbdmaaExactBackG33
namespace Go.Proofs.Ytdcnimdhfhbdmaa
open Go.RowKit
set_option maxRecDepth 100000 in
set_option maxHeartbeats 16000000 in
theorem iBack (x : Value) (p : Pa) (e : Ev) (w : World) (hw : p.wt ≤ 1048576) (h : IsPart w x p) :
  Calls Try.prog 17 #[x, .agg #[.int .i64 e.t, .int .i64 e.s, .int .i64 e.q, .int .i64 e.d, .int .i64 e.k, .int .i64 e.v, .int .i64 e.g]] w fun r w' => AnsE w w' r (backA p e) (backB p e) := by
 have HI : Hid (IsPart w x p) := h
 have HWT : Hid (p.wt ≤ 1048576) := hw
 obtain ⟨u1, u4, u5, u6, rfl, d1, d4, d5, d6⟩ := h
 obtain ⟨W0, hW0⟩ : ∃ W0, ((w.alloc (.cells #[.int .i64 p.n, u1, .int .i64 p.st.q, .int .i64 p.st.d, u4, u5, u6] 36)).alloc (.cells #[.int .i64 e.t, .int .i64 e.s, .int .i64 e.q, .int .i64 e.d, .int .i64 e.k, .int .i64 e.v, .int .i64 e.g] 40)).alloc (.cells #[.int .i64 0, .slice none 0 0, .int .i64 0, .int .i64 0, .slice none 0 0, .slice none 0 0, .slice none 0 0] 36) = W0 := ⟨_, rfl⟩
 have hz0 : W0.heap.size = w.heap.size + 1 + 1 + 1 := by rw [← hW0]; simp
 have hb0 : Below w.heap.size w W0 := hW0 ▸ (((Below.refl _ w).alloc (Nat.le_refl _) _).alloc (by simp) _).alloc (by simp; omega) _
 have HB0 : Hid (Below w.heap.size w W0) := hb0
 have BX : Hid (Bk W0 w.heap.size 36 #[.int .i64 p.n, u1, .int .i64 p.st.q, .int .i64 p.st.d, u4, u5, u6]) := hW0 ▸ ((Bk.new w _ _).alloc _).alloc _
 have BE : Hid (Bk W0 (w.heap.size + 1) 40 #[.int .i64 e.t, .int .i64 e.s, .int .i64 e.q, .int .i64 e.d, .int .i64 e.k, .int .i64 e.v, .int .i64 e.g]) := hW0 ▸ (Bk.newAt (by simp) _ _).alloc _
 have BZ : Hid (Bk W0 (w.heap.size + 1 + 1) 36 #[.int .i64 0, .slice none 0 0, .int .i64 0, .int .i64 0, .slice none 0 0, .slice none 0 0, .slice none 0 0]) := hW0 ▸ Bk.newAt (by simp) _ _
 have hz0' : W0.heap.size ≤ w.heap.size + 1 + 1 + 1 ∧ w.heap.size + 1 + 1 + 1 ≤ W0.heap.size := by omega
 clear hb0 d1 d4 d5 d6 hw hz0
 have x0 := BX.out.cell (i := 0) rfl
 have x1 := BX.out.cell (i := 1) rfl
 have x2 := BX.out.cell (i := 2) rfl
 have x3 := BX.out.cell (i := 3) rfl
 have x4 := BX.out.cell (i := 4) rfl
 have x5 := BX.out.cell (i := 5) rfl
 have x6 := BX.out.cell (i := 6) rfl
 go_enter Try.func17, Try.ntmps17
 go_wp2_with fail
 clear hW0 x0 x1 x2 x3 x4 x5 x6
 refine (iPartOk_is _ p _ HWT.out (HI.out.under HB0.out)).mono ?_
 rintro r w1 ⟨rfl, hb⟩
 have HB1 : Hid (Below w.heap.size w w1) := HB0.out.trans (hb.mono HB0.out.size)
 have hs1 : W0.heap.size ≤ w1.heap.size := hb.size
 have X1 : Hid (Bk w1 w.heap.size 36 #[.int .i64 p.n, u1, .int .i64 p.st.q, .int .i64 p.st.d, u4, u5, u6]) := BX.out.below hb
 have E1 : Hid (Bk w1 (w.heap.size + 1) 40 #[.int .i64 e.t, .int .i64 e.s, .int .i64 e.q, .int .i64 e.d, .int .i64 e.k, .int .i64 e.v, .int .i64 e.g]) := BE.out.below hb
 have Z1 : Hid (Bk w1 (w.heap.size + 1 + 1) 36 #[.int .i64 0, .slice none 0 0, .int .i64 0, .int .i64 0, .slice none 0 0, .slice none 0 0, .slice none 0 0]) := BZ.out.below hb
 clear hb BX BE BZ
 cases hok : p.ok
 case false =>
  have HOK : Hid (p.ok = false) := hok
  have ZN := Z1
  have BN := HB1
  clear hok
  have z0 := ZN.out.cell (i := 0) rfl
  have z1 := ZN.out.cell (i := 1) rfl
  have z2 := ZN.out.cell (i := 2) rfl
  have z3 := ZN.out.cell (i := 3) rfl
  have z4 := ZN.out.cell (i := 4) rfl
  have z5 := ZN.out.cell (i := 5) rfl
  have z6 := ZN.out.cell (i := 6) rfl
  have zf := ZN.out.free
  obtain ⟨X5, hX5⟩ : ∃ X5, put7s w1 (w.heap.size + 1 + 1) (.int .i64 0) (.slice none 0 0) (.int .i64 0) (.int .i64 0) (.slice none 0 0) (.slice none 0 0) (.slice none 0 0) = X5 := ⟨_, rfl⟩
  have hP := ZN.out.put7s (.int .i64 0) (.slice none 0 0) (.int .i64 0) (.int .i64 0) (.slice none 0 0) (.slice none 0 0) (.slice none 0 0)
  have ht := put7s_turns w1 (w.heap.size + 1 + 1) (.int .i64 0) (.slice none 0 0) (.int .i64 0) (.int .i64 0) (.slice none 0 0) (.slice none 0 0) (.slice none 0 0)
  rw [hX5] at hP ht
  unfold put7s at hX5
  have HX5 : Hid _ := hX5
  have HP5 : Hid (Bk X5 (w.heap.size + 1 + 1) 36 #[.int .i64 0, .slice none 0 0, .int .i64 0, .int .i64 0, .slice none 0 0, .slice none 0 0, .slice none 0 0]) := hP
  have HT5 : Hid (Turns (fun b => b = (w.heap.size + 1 + 1)) w1 X5) := ht
  clear hX5 hP ht
  go_wp2
  try rw [HX5.out]
  have t0 := HP5.out.cell (i := 0) rfl
  have t1 := HP5.out.cell (i := 1) rfl
  have t2 := HP5.out.cell (i := 2) rfl
  have t3 := HP5.out.cell (i := 3) rfl
  have t4 := HP5.out.cell (i := 4) rfl
  have t5 := HP5.out.cell (i := 5) rfl
  have t6 := HP5.out.cell (i := 6) rfl
  refine bodyPost_ret (v := .tuple #[.agg #[.int .i64 0, .slice none 0 0, .int .i64 0, .int .i64 0, .slice none 0 0, .slice none 0 0, .slice none 0 0], .slice none 0 0]) (by simp [results, Try.results17, go_sem, t0, t1, t2, t3, t4, t5, t6]) rfl ?_
  have hA : backA p e = Pa.none ∧ backB p e = [] := by unfold backA backB; rw [HOK.out]; exact ⟨rfl, rfl⟩
  rw [hA.1, hA.2]
  exact ⟨_, _, rfl, BN.out.trans (HT5.out.to_below (fun b e => by omega) BN.out.size), fun _ => False, fun _ => False, none_partF _ _, nilE _, fun _ h => h.elim, fun _ h => h.elim⟩
 have HOK : Hid (p.ok = true) := hok
 clear hok
 have e0 := E1.out.cell (i := 0) rfl
 have e1 := E1.out.cell (i := 1) rfl
 have e2 := E1.out.cell (i := 2) rfl
 have e3 := E1.out.cell (i := 3) rfl
 have e4 := E1.out.cell (i := 4) rfl
 have e5 := E1.out.cell (i := 5) rfl
 have e6 := E1.out.cell (i := 6) rfl
 go_wp2_with fail
 clear e0 e1 e2 e3 e4 e5 e6
 refine (iOk_ev e e.ok rfl _).mono ?_
 rintro r w2 ⟨rfl, hb⟩
 have HB2 : Hid (Below w.heap.size w w2) := HB1.out.trans (hb.mono HB1.out.size)
 have hs2 : w1.heap.size ≤ w2.heap.size := hb.size
 have X2 : Hid (Bk w2 w.heap.size 36 #[.int .i64 p.n, u1, .int .i64 p.st.q, .int .i64 p.st.d, u4, u5, u6]) := X1.out.below hb
 have E2 : Hid (Bk w2 (w.heap.size + 1) 40 #[.int .i64 e.t, .int .i64 e.s, .int .i64 e.q, .int .i64 e.d, .int .i64 e.k, .int .i64 e.v, .int .i64 e.g]) := E1.out.below hb
 have Z2 : Hid (Bk w2 (w.heap.size + 1 + 1) 36 #[.int .i64 0, .slice none 0 0, .int .i64 0, .int .i64 0, .slice none 0 0, .slice none 0 0, .slice none 0 0]) := Z1.out.below hb
 clear hb X1 E1 Z1
 cases hev : e.ok
 case false =>
  have HEV : Hid (e.ok = false) := hev
  have ZN := Z2
  have BN := HB2
  clear hev
  have z0 := ZN.out.cell (i := 0) rfl
  have z1 := ZN.out.cell (i := 1) rfl
  have z2 := ZN.out.cell (i := 2) rfl
  have z3 := ZN.out.cell (i := 3) rfl
  have z4 := ZN.out.cell (i := 4) rfl
  have z5 := ZN.out.cell (i := 5) rfl
  have z6 := ZN.out.cell (i := 6) rfl
  have zf := ZN.out.free
  obtain ⟨X5, hX5⟩ : ∃ X5, put7s w2 (w.heap.size + 1 + 1) (.int .i64 0) (.slice none 0 0) (.int .i64 0) (.int .i64 0) (.slice none 0 0) (.slice none 0 0) (.slice none 0 0) = X5 := ⟨_, rfl⟩
  have hP := ZN.out.put7s (.int .i64 0) (.slice none 0 0) (.int .i64 0) (.int .i64 0) (.slice none 0 0) (.slice none 0 0) (.slice none 0 0)
  have ht := put7s_turns w2 (w.heap.size + 1 + 1) (.int .i64 0) (.slice none 0 0) (.int .i64 0) (.int .i64 0) (.slice none 0 0) (.slice none 0 0) (.slice none 0 0)
  rw [hX5] at hP ht
  unfold put7s at hX5
  have HX5 : Hid _ := hX5
  have HP5 : Hid (Bk X5 (w.heap.size + 1 + 1) 36 #[.int .i64 0, .slice none 0 0, .int .i64 0, .int .i64 0, .slice none 0 0, .slice none 0 0, .slice none 0 0]) := hP
  have HT5 : Hid (Turns (fun b => b = (w.heap.size + 1 + 1)) w2 X5) := ht
  clear hX5 hP ht
  go_wp2
  try rw [HX5.out]
  have t0 := HP5.out.cell (i := 0) rfl
  have t1 := HP5.out.cell (i := 1) rfl
  have t2 := HP5.out.cell (i := 2) rfl
  have t3 := HP5.out.cell (i := 3) rfl
  have t4 := HP5.out.cell (i := 4) rfl
  have t5 := HP5.out.cell (i := 5) rfl
  have t6 := HP5.out.cell (i := 6) rfl
  refine bodyPost_ret (v := .tuple #[.agg #[.int .i64 0, .slice none 0 0, .int .i64 0, .int .i64 0, .slice none 0 0, .slice none 0 0, .slice none 0 0], .slice none 0 0]) (by simp [results, Try.results17, go_sem, t0, t1, t2, t3, t4, t5, t6]) rfl ?_
  have hA : backA p e = Pa.none ∧ backB p e = [] := by unfold backA backB; rw [HOK.out, HEV.out]; exact ⟨rfl, rfl⟩
  rw [hA.1, hA.2]
  exact ⟨_, _, rfl, BN.out.trans (HT5.out.to_below (fun b e => by omega) BN.out.size), fun _ => False, fun _ => False, none_partF _ _, nilE _, fun _ h => h.elim, fun _ h => h.elim⟩
 have HEV : Hid (e.ok = true) := hev
 have HG : Hid (GoodP p) := Pa.ok_iff.1 HOK.out
 clear hev
 have x0 := X2.out.cell (i := 0) rfl
 have x1 := X2.out.cell (i := 1) rfl
 have x2 := X2.out.cell (i := 2) rfl
 have x3 := X2.out.cell (i := 3) rfl
 have x4 := X2.out.cell (i := 4) rfl
 have x5 := X2.out.cell (i := 5) rfl
 have x6 := X2.out.cell (i := 6) rfl
 go_wp2_with fail
 clear x0 x1 x2 x3 x4 x5 x6
 refine (doerOf_any _ p _ HWT.out (HI.out.under HB2.out)).mono ?_
 rintro r w3 ⟨D, vr, vp, vt, va, A1, A4, rfl, hd, hb⟩
 have hs3 : w2.heap.size ≤ w3.heap.size := hb.size
 have HB23 : Hid (Below w2.heap.size w2 w3) := hb
 have E3 : Hid (Bk w3 (w.heap.size + 1) 40 #[.int .i64 e.t, .int .i64 e.s, .int .i64 e.q, .int .i64 e.d, .int .i64 e.k, .int .i64 e.v, .int .i64 e.g]) := E2.out.below hb
 have HD3 : Hid (DoR w2.heap.size D w3 vr vp vt va (.slice none 0 0) A1 A4 p.rev []) := hd
 clear hb hd
 have e0 := E3.out.cell (i := 0) rfl
 have e1 := E3.out.cell (i := 1) rfl
 have e2 := E3.out.cell (i := 2) rfl
 have e3 := E3.out.cell (i := 3) rfl
 have e4 := E3.out.cell (i := 4) rfl
 have e5 := E3.out.cell (i := 5) rfl
 have e6 := E3.out.cell (i := 6) rfl
 go_wp2_with fail
 clear e0 e1 e2 e3 e4 e5 e6
 refine (goBack_any w2.heap.size D p e vr vp vt va A1 A4 w3 HWT.out HG.out HEV.out hs3 HD3.out).mono ?_
 rintro r w4 ⟨⟨ub, rfl⟩, ⟨vr', vp', vt', vu', A1', A4', hd⟩, hb⟩
 have h24 : Below w2.heap.size w2 w4 := HB23.out.trans hb
 have HB24 : Hid (Below w2.heap.size w2 w4) := h24
 have HB4 : Hid (Below w.heap.size w w4) := HB2.out.trans (h24.mono HB2.out.size)
 have hs4 : w2.heap.size ≤ w4.heap.size := h24.size
 have Z4 : Hid (Bk w4 (w.heap.size + 1 + 1) 36 #[.int .i64 0, .slice none 0 0, .int .i64 0, .int .i64 0, .slice none 0 0, .slice none 0 0, .slice none 0 0]) := Z2.out.below h24
 have X4 : Hid (Bk w4 w.heap.size 36 #[.int .i64 p.n, u1, .int .i64 p.st.q, .int .i64 p.st.d, u4, u5, u6]) := X2.out.below h24
 have HD4 : Hid (DoR w2.heap.size D w4 vr' vp' vt' va vu' A1' A4' (p.back (cutK p.p e)).rev (undoL p.p (cutK p.p e))) := hd
 have HAW : Hid ((p.back (cutK p.p e)).wt ≤ 1048576) := back_wt HG.out HWT.out (cutK_at p.p e).le
 have hlow : ∀ k, vt'.ownBlock = some k → w.heap.size + 1 + 1 + 1 ≤ k ∧ w2.heap.size ≤ k := fun k hk => by (have := (World.ownsRow.lt hd.cp.todo k hk).1; omega)
 have HLOW : Hid (∀ k, vt'.ownBlock = some k → w.heap.size + 1 + 1 + 1 ≤ k ∧ w2.heap.size ≤ k) := hlow
 clear hb hd h24 X2 E2 Z2 E3 HD3 hlow
 have x0 := X4.out.cell (i := 0) rfl
 have x1 := X4.out.cell (i := 1) rfl
 have x2 := X4.out.cell (i := 2) rfl
 have x3 := X4.out.cell (i := 3) rfl
 have x4 := X4.out.cell (i := 4) rfl
 have x5 := X4.out.cell (i := 5) rfl
 have x6 := X4.out.cell (i := 6) rfl
 go_wp2_with fail
 clear x0 x1 x2 x3 x4 x5 x6
 refine (outcome_any w2.heap.size D vr' vp' vt' va vu' A1' A4' (p.back (cutK p.p e)) p (undoL p.p (cutK p.p e)) _ w4 HAW.out HWT.out hs4 HD4.out (fun w' ht => HI.out.under (HB4.out.trans (ht.to_below (fun k hk => by have := HLOW.out k hk; omega) HB4.out.size)))).mono ?_
 rintro r w5 ⟨y1, y2, rfl, ht, F1, F2, hF, hO, hd1, hd2⟩
 obtain ⟨A, hA0⟩ : ∃ A, outA (p.back (cutK p.p e)) p = A := ⟨_, rfl⟩
 obtain ⟨L, hL0⟩ : ∃ L, outB (p.back (cutK p.p e)) (undoL p.p (cutK p.p e)) = L := ⟨_, rfl⟩
 have HAL : Hid (outA (p.back (cutK p.p e)) p = A ∧ outB (p.back (cutK p.p e)) (undoL p.p (cutK p.p e)) = L) := ⟨hA0, hL0⟩
 rw [hA0] at hF
 rw [hL0] at hO
 clear hA0 hL0
 have HB5 : Hid (Below w.heap.size w w5) := HB4.out.trans (ht.to_below (fun k hk => by (have := HLOW.out k hk; omega)) HB4.out.size)
 have hs5 : w4.heap.size ≤ w5.heap.size := ht.size
 have Z5 : Hid (Bk w5 (w.heap.size + 1 + 1) 36 #[.int .i64 0, .slice none 0 0, .int .i64 0, .int .i64 0, .slice none 0 0, .slice none 0 0, .slice none 0 0]) := Z4.out.turns ht (fun e1 => by (have := HLOW.out _ e1; omega))
 have HF5 : Hid (PartF F1 w5 y1 A) := hF
 have HO5 : Hid (OwnD w5 F2 y2 (evsD L)) := hO
 have HDF : Hid ((∀ k, F1 k → (w2.heap.size ≤ k ∧ k < w5.heap.size) ∧ ¬ F2 k) ∧ (∀ k, F2 k → w2.heap.size ≤ k ∧ k < w5.heap.size)) := ⟨hd1, hd2⟩
 obtain ⟨r1, s1, r4, s4, r5, s5, r6, s6, rfl⟩ := PartF.form hF
 obtain ⟨a2, c2, rfl, _⟩ := OwnD.parts (c := 7) (n := L.length) hO
 clear ht hF hO hd1 hd2 Z4 X4 HD4
 obtain ⟨W6, hW6⟩ : ∃ V, w5.alloc (.cells #[.int .i64 A.n, .slice r1 A.st.r.length s1, .int .i64 A.st.q, .int .i64 A.st.d, .slice r4 A.p.length s4, .slice r5 A.t.length s5, .slice r6 A.a.length s6] 36) = V := ⟨_, rfl⟩
 have hb6 : Below w5.heap.size w5 W6 := hW6 ▸ (Below.refl _ w5).alloc (Nat.le_refl _) _
 have Q6 : Hid (Bk W6 w5.heap.size 36 #[.int .i64 A.n, .slice r1 A.st.r.length s1, .int .i64 A.st.q, .int .i64 A.st.d, .slice r4 A.p.length s4, .slice r5 A.t.length s5, .slice r6 A.a.length s6]) := hW6 ▸ Bk.new w5 _ _
 have Z6 : Hid (Bk W6 (w.heap.size + 1 + 1) 36 #[.int .i64 0, .slice none 0 0, .int .i64 0, .int .i64 0, .slice none 0 0, .slice none 0 0, .slice none 0 0]) := Z5.out.below hb6
 have HB6 : Hid (Below w.heap.size w W6) := HB5.out.trans (hb6.mono HB5.out.size)
 have hs6 : w5.heap.size < W6.heap.size := Q6.out.lt
 have HF6 : Hid (PartF F1 W6 (.agg #[.int .i64 A.n, .slice r1 A.st.r.length s1, .int .i64 A.st.q, .int .i64 A.st.d, .slice r4 A.p.length s4, .slice r5 A.t.length s5, .slice r6 A.a.length s6]) A) := HF5.out.under hb6
 have HO6 : Hid (OwnD W6 F2 (.slice a2 L.length c2) (evsD L)) := HO5.out.turns (S := fun _ => False) (Turns.of_below hb6) (fun _ _ => id)
 clear hb6 Z5
 have q0 := Q6.out.cell (i := 0) rfl
 have q1 := Q6.out.cell (i := 1) rfl
 have q2 := Q6.out.cell (i := 2) rfl
 have q3 := Q6.out.cell (i := 3) rfl
 have q4 := Q6.out.cell (i := 4) rfl
 have q5 := Q6.out.cell (i := 5) rfl
 have q6 := Q6.out.cell (i := 6) rfl
 have z0 := Z6.out.cell (i := 0) rfl
 have z1 := Z6.out.cell (i := 1) rfl
 have z2 := Z6.out.cell (i := 2) rfl
 have z3 := Z6.out.cell (i := 3) rfl
 have z4 := Z6.out.cell (i := 4) rfl
 have z5 := Z6.out.cell (i := 5) rfl
 have z6 := Z6.out.cell (i := 6) rfl
 have zf := Z6.out.free
 obtain ⟨X5, hX5⟩ : ∃ X5, put7s W6 (w.heap.size + 1 + 1) (.int .i64 A.n) (.slice r1 A.st.r.length s1) (.int .i64 A.st.q) (.int .i64 A.st.d) (.slice r4 A.p.length s4) (.slice r5 A.t.length s5) (.slice r6 A.a.length s6) = X5 := ⟨_, rfl⟩
 have hP := Z6.out.put7s (.int .i64 A.n) (.slice r1 A.st.r.length s1) (.int .i64 A.st.q) (.int .i64 A.st.d) (.slice r4 A.p.length s4) (.slice r5 A.t.length s5) (.slice r6 A.a.length s6)
 have ht := put7s_turns W6 (w.heap.size + 1 + 1) (.int .i64 A.n) (.slice r1 A.st.r.length s1) (.int .i64 A.st.q) (.int .i64 A.st.d) (.slice r4 A.p.length s4) (.slice r5 A.t.length s5) (.slice r6 A.a.length s6)
 rw [hX5] at hP ht
 unfold put7s at hX5
 have HX5 : Hid _ := hX5
 have HP5 : Hid (Bk X5 (w.heap.size + 1 + 1) 36 #[.int .i64 A.n, .slice r1 A.st.r.length s1, .int .i64 A.st.q, .int .i64 A.st.d, .slice r4 A.p.length s4, .slice r5 A.t.length s5, .slice r6 A.a.length s6]) := hP
 have HT5 : Hid (Turns (fun b => b = (w.heap.size + 1 + 1)) W6 X5) := ht
 clear hX5 hP ht
 go_wp2
 try rw [HX5.out]
 have t0 := HP5.out.cell (i := 0) rfl
 have t1 := HP5.out.cell (i := 1) rfl
 have t2 := HP5.out.cell (i := 2) rfl
 have t3 := HP5.out.cell (i := 3) rfl
 have t4 := HP5.out.cell (i := 4) rfl
 have t5 := HP5.out.cell (i := 5) rfl
 have t6 := HP5.out.cell (i := 6) rfl
 refine bodyPost_ret (v := .tuple #[.agg #[.int .i64 A.n, .slice r1 A.st.r.length s1, .int .i64 A.st.q, .int .i64 A.st.d, .slice r4 A.p.length s4, .slice r5 A.t.length s5, .slice r6 A.a.length s6], .slice a2 L.length c2]) (by simp [results, Try.results17, go_sem, t0, t1, t2, t3, t4, t5, t6]) rfl ?_
 have hA : backA p e = A ∧ backB p e = L := by (rw [← HAL.out.1, ← HAL.out.2]; unfold backA backB outA outB; rw [HOK.out, HEV.out]; exact ⟨rfl, rfl⟩)
 rw [hA.1, hA.2]
 have hsx := HT5.out.size
 exact ⟨_, _, rfl, HB6.out.trans (HT5.out.to_below (fun b e => by omega) HB6.out.size), F1, F2, HF6.out.turns HT5.out (fun b hb e => by have := HDF.out.1 b hb; omega), HO6.out.turns HT5.out (fun b hb e => by have := HDF.out.2 b hb; omega), fun b hb => ⟨by have := HDF.out.1 b hb; omega, (HDF.out.1 b hb).2⟩, fun b hb => by have := HDF.out.2 b hb; omega⟩
end Go.Proofs.Ytdcnimdhfhbdmaa
