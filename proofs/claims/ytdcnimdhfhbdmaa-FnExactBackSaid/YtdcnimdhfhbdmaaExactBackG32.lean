/- PTd, PTe, PBt -/
import Derived.Test.YtdcnimdhfhbdmaaExactBackG30
import Derived.Test.YtdcnimdhfhbdmaaExactBackG31
import Derived.Test.YtdcnimdhfhbdmaaExactBackLPBs
/- The program's Trim. -/
namespace Go.Proofs.Ytdcnimdhfhbdmaa
open Go.RowKit
end Go.Proofs.Ytdcnimdhfhbdmaa

/- Both Trim, as the law wants them. -/
namespace Go.Proofs.Ytdcnimdhfhbdmaa
open Go.RowKit
theorem none_wt : Pa.none.wt ≤ 1048576 := by
 have e1 : (intsD []).wt = 0 := ints_wt []
 have e2 : (evsD []).wt = 0 := evs_wt []
 have e3 : (pastsD []).wt = 0 := by rw [pastsD_wt]; rfl
 show (intsD []).wt + (pastsD []).wt + (evsD []).wt + (intsD []).wt ≤ 1048576
 rw [e1, e2, e3]; omega
end Go.Proofs.Ytdcnimdhfhbdmaa

/- The specification's Back. -/
namespace Go.Proofs.Ytdcnimdhfhbdmaa
open Go.RowKit
def AnsE (w w' : World) (r : Ending) (a : Pa) (l : List Ev) : Prop := ∃ y1 y2, r = .returned (.tuple #[y1, y2]) ∧ Below w.heap.size w w' ∧ A2 (fun k => w.heap.size ≤ k ∧ k < w'.heap.size) w' y1 y2 a (evsD l)
theorem nilE (w : World) : OwnD w (fun _ => False) (.slice none 0 0) (evsD []) := .nil _ _ _ _ _ (Nat.zero_le _)
theorem ownE {B : Nat} {w : World} {y : Value} {l : List Ev} (h : w.ownsRow B 40 7 y l.length (cellsL l)) : OwnD w (fun k => B ≤ k ∧ k < w.heap.size) y (evsD l) := (RowF.of_owns (cellsL_length l) h).own
theorem back_small {p : Pa} {e : Ev} (h : p.wt ≤ 1048576) : (backA p e).wt ≤ 1048576 ∧ (evsD (backB p e)).wt ≤ 1048576 := by
 have e0 : (evsD []).wt = 0 := evs_wt []
 unfold backA backB
 split
 ·next hc =>
  have hg : GoodP p := Pa.ok_iff.1 (by revert hc; cases p.ok <;> simp)
  have hk := (cutK_at p.p e).le
  split
  ·refine ⟨back_wt hg h hk, ?_⟩
   rw [evs_wt]
   have := undo_len (p := p) hk
   unfold Pa.wt at h
   omega
  ·exact ⟨h, by rw [e0]; omega⟩
 ·exact ⟨none_wt, by rw [e0]; omega⟩
set_option maxRecDepth 100000 in
set_option maxHeartbeats 16000000 in
theorem sBack (x : Value) (p : Pa) (e : Ev) (w : World) (hw : p.wt ≤ 1048576) (h : IsPart w x p) :
  Calls Try.prog 16 #[x, .agg #[.int .i64 e.t, .int .i64 e.s, .int .i64 e.q, .int .i64 e.d, .int .i64 e.k, .int .i64 e.v, .int .i64 e.g]] w fun r w' => AnsE w w' r (backA p e) (backB p e) := by
 have HI : Hid (IsPart w x p) := h
 have HWT : Hid (p.wt ≤ 1048576) := hw
 obtain ⟨u1, u4, u5, u6, rfl, d1, d4, d5, d6⟩ := h
 obtain ⟨W0, hW0⟩ : ∃ W0, ((w.alloc (.cells #[.int .i64 p.n, u1, .int .i64 p.st.q, .int .i64 p.st.d, u4, u5, u6] 36)).alloc (.cells #[.int .i64 e.t, .int .i64 e.s, .int .i64 e.q, .int .i64 e.d, .int .i64 e.k, .int .i64 e.v, .int .i64 e.g] 40)).alloc (.cells #[.int .i64 0, .slice none 0 0, .int .i64 0, .int .i64 0, .slice none 0 0, .slice none 0 0, .slice none 0 0] 36) = W0 := ⟨_, rfl⟩
 have hz0 : W0.heap.size = w.heap.size + 1 + 1 + 1 := by rw [← hW0]; simp
 have hb0 : Below w.heap.size w W0 := hW0 ▸ (((Below.refl _ w).alloc (Nat.le_refl _) _).alloc (by simp) _).alloc (by simp; omega) _
 have HB0 : Hid (Below w.heap.size w W0) := hb0
 have BX : Hid (Bk W0 w.heap.size 36 #[.int .i64 p.n, u1, .int .i64 p.st.q, .int .i64 p.st.d, u4, u5, u6]) := hW0 ▸ ((Bk.new w _ _).alloc _).alloc _
 have BE : Hid (Bk W0 (w.heap.size + 1) 40 #[.int .i64 e.t, .int .i64 e.s, .int .i64 e.q, .int .i64 e.d, .int .i64 e.k, .int .i64 e.v, .int .i64 e.g]) := hW0 ▸ (Bk.newAt (by simp) _ _).alloc _
 have BZ : Hid (Bk W0 (w.heap.size + 1 + 1) 36 #[.int .i64 0, .slice none 0 0, .int .i64 0, .int .i64 0, .slice none 0 0, .slice none 0 0, .slice none 0 0]) := hW0 ▸ Bk.newAt (by simp) _ _
 have hz0' : W0.heap.size ≤ w.heap.size + 1 + 1 + 1 ∧ w.heap.size + 1 + 1 + 1 ≤ W0.heap.size := by omega
 clear hb0 d1 d4 d5 d6 hw hz0
 have x0 := BX.out.cell (i := 0) rfl
 have x1 := BX.out.cell (i := 1) rfl
 have x2 := BX.out.cell (i := 2) rfl
 have x3 := BX.out.cell (i := 3) rfl
 have x4 := BX.out.cell (i := 4) rfl
 have x5 := BX.out.cell (i := 5) rfl
 have x6 := BX.out.cell (i := 6) rfl
 go_enter Try.func16, Try.ntmps16
 go_wp2_with fail
 clear hW0 x0 x1 x2 x3 x4 x5 x6
 refine (sPartOk_is _ p _ HWT.out (HI.out.under HB0.out)).mono ?_
 rintro r w1 ⟨rfl, hb⟩
 have HB1 : Hid (Below w.heap.size w w1) := HB0.out.trans (hb.mono HB0.out.size)
 have hs1 : W0.heap.size ≤ w1.heap.size := hb.size
 have X1 : Hid (Bk w1 w.heap.size 36 #[.int .i64 p.n, u1, .int .i64 p.st.q, .int .i64 p.st.d, u4, u5, u6]) := BX.out.below hb
 have E1 : Hid (Bk w1 (w.heap.size + 1) 40 #[.int .i64 e.t, .int .i64 e.s, .int .i64 e.q, .int .i64 e.d, .int .i64 e.k, .int .i64 e.v, .int .i64 e.g]) := BE.out.below hb
 have Z1 : Hid (Bk w1 (w.heap.size + 1 + 1) 36 #[.int .i64 0, .slice none 0 0, .int .i64 0, .int .i64 0, .slice none 0 0, .slice none 0 0, .slice none 0 0]) := BZ.out.below hb
 clear hb BX BE BZ
 cases hok : p.ok
 case false =>
  have HOK : Hid (p.ok = false) := hok
  have ZN := Z1
  have BN := HB1
  clear hok
  have z0 := ZN.out.cell (i := 0) rfl
  have z1 := ZN.out.cell (i := 1) rfl
  have z2 := ZN.out.cell (i := 2) rfl
  have z3 := ZN.out.cell (i := 3) rfl
  have z4 := ZN.out.cell (i := 4) rfl
  have z5 := ZN.out.cell (i := 5) rfl
  have z6 := ZN.out.cell (i := 6) rfl
  have zf := ZN.out.free
  obtain ⟨X5, hX5⟩ : ∃ X5, put7s w1 (w.heap.size + 1 + 1) (.int .i64 0) (.slice none 0 0) (.int .i64 0) (.int .i64 0) (.slice none 0 0) (.slice none 0 0) (.slice none 0 0) = X5 := ⟨_, rfl⟩
  have hP := ZN.out.put7s (.int .i64 0) (.slice none 0 0) (.int .i64 0) (.int .i64 0) (.slice none 0 0) (.slice none 0 0) (.slice none 0 0)
  have ht := put7s_turns w1 (w.heap.size + 1 + 1) (.int .i64 0) (.slice none 0 0) (.int .i64 0) (.int .i64 0) (.slice none 0 0) (.slice none 0 0) (.slice none 0 0)
  rw [hX5] at hP ht
  unfold put7s at hX5
  have HX5 : Hid _ := hX5
  have HP5 : Hid (Bk X5 (w.heap.size + 1 + 1) 36 #[.int .i64 0, .slice none 0 0, .int .i64 0, .int .i64 0, .slice none 0 0, .slice none 0 0, .slice none 0 0]) := hP
  have HT5 : Hid (Turns (fun b => b = (w.heap.size + 1 + 1)) w1 X5) := ht
  clear hX5 hP ht
  go_wp2
  try rw [HX5.out]
  have t0 := HP5.out.cell (i := 0) rfl
  have t1 := HP5.out.cell (i := 1) rfl
  have t2 := HP5.out.cell (i := 2) rfl
  have t3 := HP5.out.cell (i := 3) rfl
  have t4 := HP5.out.cell (i := 4) rfl
  have t5 := HP5.out.cell (i := 5) rfl
  have t6 := HP5.out.cell (i := 6) rfl
  refine bodyPost_ret (v := .tuple #[.agg #[.int .i64 0, .slice none 0 0, .int .i64 0, .int .i64 0, .slice none 0 0, .slice none 0 0, .slice none 0 0], .slice none 0 0]) (by simp [results, Try.results16, go_sem, t0, t1, t2, t3, t4, t5, t6]) rfl ?_
  have hA : backA p e = Pa.none ∧ backB p e = [] := by unfold backA backB; rw [HOK.out]; exact ⟨rfl, rfl⟩
  rw [hA.1, hA.2]
  exact ⟨_, _, rfl, BN.out.trans (HT5.out.to_below (fun b e => by omega) BN.out.size), fun _ => False, fun _ => False, none_partF _ _, nilE _, fun _ h => h.elim, fun _ h => h.elim⟩
 have HOK : Hid (p.ok = true) := hok
 clear hok
 have e0 := E1.out.cell (i := 0) rfl
 have e1 := E1.out.cell (i := 1) rfl
 have e2 := E1.out.cell (i := 2) rfl
 have e3 := E1.out.cell (i := 3) rfl
 have e4 := E1.out.cell (i := 4) rfl
 have e5 := E1.out.cell (i := 5) rfl
 have e6 := E1.out.cell (i := 6) rfl
 go_wp2_with fail
 clear e0 e1 e2 e3 e4 e5 e6
 refine (sOk_ev e e.ok rfl _).mono ?_
 rintro r w2 ⟨rfl, hb⟩
 have HB2 : Hid (Below w.heap.size w w2) := HB1.out.trans (hb.mono HB1.out.size)
 have hs2 : w1.heap.size ≤ w2.heap.size := hb.size
 have X2 : Hid (Bk w2 w.heap.size 36 #[.int .i64 p.n, u1, .int .i64 p.st.q, .int .i64 p.st.d, u4, u5, u6]) := X1.out.below hb
 have E2 : Hid (Bk w2 (w.heap.size + 1) 40 #[.int .i64 e.t, .int .i64 e.s, .int .i64 e.q, .int .i64 e.d, .int .i64 e.k, .int .i64 e.v, .int .i64 e.g]) := E1.out.below hb
 have Z2 : Hid (Bk w2 (w.heap.size + 1 + 1) 36 #[.int .i64 0, .slice none 0 0, .int .i64 0, .int .i64 0, .slice none 0 0, .slice none 0 0, .slice none 0 0]) := Z1.out.below hb
 clear hb X1 E1 Z1
 cases hev : e.ok
 case false =>
  have HEV : Hid (e.ok = false) := hev
  have ZN := Z2
  have BN := HB2
  clear hev
  have z0 := ZN.out.cell (i := 0) rfl
  have z1 := ZN.out.cell (i := 1) rfl
  have z2 := ZN.out.cell (i := 2) rfl
  have z3 := ZN.out.cell (i := 3) rfl
  have z4 := ZN.out.cell (i := 4) rfl
  have z5 := ZN.out.cell (i := 5) rfl
  have z6 := ZN.out.cell (i := 6) rfl
  have zf := ZN.out.free
  obtain ⟨X5, hX5⟩ : ∃ X5, put7s w2 (w.heap.size + 1 + 1) (.int .i64 0) (.slice none 0 0) (.int .i64 0) (.int .i64 0) (.slice none 0 0) (.slice none 0 0) (.slice none 0 0) = X5 := ⟨_, rfl⟩
  have hP := ZN.out.put7s (.int .i64 0) (.slice none 0 0) (.int .i64 0) (.int .i64 0) (.slice none 0 0) (.slice none 0 0) (.slice none 0 0)
  have ht := put7s_turns w2 (w.heap.size + 1 + 1) (.int .i64 0) (.slice none 0 0) (.int .i64 0) (.int .i64 0) (.slice none 0 0) (.slice none 0 0) (.slice none 0 0)
  rw [hX5] at hP ht
  unfold put7s at hX5
  have HX5 : Hid _ := hX5
  have HP5 : Hid (Bk X5 (w.heap.size + 1 + 1) 36 #[.int .i64 0, .slice none 0 0, .int .i64 0, .int .i64 0, .slice none 0 0, .slice none 0 0, .slice none 0 0]) := hP
  have HT5 : Hid (Turns (fun b => b = (w.heap.size + 1 + 1)) w2 X5) := ht
  clear hX5 hP ht
  go_wp2
  try rw [HX5.out]
  have t0 := HP5.out.cell (i := 0) rfl
  have t1 := HP5.out.cell (i := 1) rfl
  have t2 := HP5.out.cell (i := 2) rfl
  have t3 := HP5.out.cell (i := 3) rfl
  have t4 := HP5.out.cell (i := 4) rfl
  have t5 := HP5.out.cell (i := 5) rfl
  have t6 := HP5.out.cell (i := 6) rfl
  refine bodyPost_ret (v := .tuple #[.agg #[.int .i64 0, .slice none 0 0, .int .i64 0, .int .i64 0, .slice none 0 0, .slice none 0 0, .slice none 0 0], .slice none 0 0]) (by simp [results, Try.results16, go_sem, t0, t1, t2, t3, t4, t5, t6]) rfl ?_
  have hA : backA p e = Pa.none ∧ backB p e = [] := by unfold backA backB; rw [HOK.out, HEV.out]; exact ⟨rfl, rfl⟩
  rw [hA.1, hA.2]
  exact ⟨_, _, rfl, BN.out.trans (HT5.out.to_below (fun b e => by omega) BN.out.size), fun _ => False, fun _ => False, none_partF _ _, nilE _, fun _ h => h.elim, fun _ h => h.elim⟩
 have HEV : Hid (e.ok = true) := hev
 have HG : Hid (GoodP p) := Pa.ok_iff.1 HOK.out
 clear hev
 have x0 := X2.out.cell (i := 0) rfl
 have x1 := X2.out.cell (i := 1) rfl
 have x2 := X2.out.cell (i := 2) rfl
 have x3 := X2.out.cell (i := 3) rfl
 have x4 := X2.out.cell (i := 4) rfl
 have x5 := X2.out.cell (i := 5) rfl
 have x6 := X2.out.cell (i := 6) rfl
 have e0 := E2.out.cell (i := 0) rfl
 have e1 := E2.out.cell (i := 1) rfl
 have e2 := E2.out.cell (i := 2) rfl
 have e3 := E2.out.cell (i := 3) rfl
 have e4 := E2.out.cell (i := 4) rfl
 have e5 := E2.out.cell (i := 5) rfl
 have e6 := E2.out.cell (i := 6) rfl
 go_wp2_with fail
 clear e0 x0 e1 x1 e2 x2 e3 x3 e4 x4 e5 x5 e6 x6
 refine (l4back_any _ p e _ HWT.out HG.out (HI.out.under HB2.out)).mono ?_
 rintro r w3 ⟨y1, y2, rfl, hp, hd, hb⟩
 have HB3 : Hid (Below w.heap.size w w3) := HB2.out.trans (hb.mono HB2.out.size)
 have hs3 : w2.heap.size ≤ w3.heap.size := hb.size
 have Z3 : Hid (Bk w3 (w.heap.size + 1 + 1) 36 #[.int .i64 0, .slice none 0 0, .int .i64 0, .int .i64 0, .slice none 0 0, .slice none 0 0, .slice none 0 0]) := Z2.out.below hb
 have X3 : Hid (Bk w3 w.heap.size 36 #[.int .i64 p.n, u1, .int .i64 p.st.q, .int .i64 p.st.d, u4, u5, u6]) := X2.out.below hb
 obtain ⟨A, hA0⟩ : ∃ A, (p.back (cutK p.p e)) = A := ⟨_, rfl⟩
 have hAw : A.wt ≤ 1048576 := hA0 ▸ back_wt HG.out HWT.out (cutK_at p.p e).le
 obtain ⟨L, hL0⟩ : ∃ L, undoL p.p (cutK p.p e) = L := ⟨_, rfl⟩
 have hLw : L.length ≤ 1048576 := by (have h1 := undo_len (p := p) (cutK_at p.p e).le; have h2 := HWT.out; unfold Pa.wt at h2; rw [hL0] at h1; omega)
 have HAL : Hid ((p.back (cutK p.p e)) = A ∧ undoL p.p (cutK p.p e) = L) := ⟨hA0, hL0⟩
 rw [hA0] at hp
 rw [hL0] at hd
 clear hA0 hL0
 have HP3 : Hid (IsPart w3 y1 A) := hp
 have HD3 : Hid (IsEvs w3 y2 L) := hd
 have HAW : Hid (A.wt ≤ 1048576) := hAw
 obtain ⟨v1, v4, v5, v6, rfl, j1, j4, j5, j6⟩ := hp
 obtain ⟨a1, c1, rfl, _⟩ := IsD.len j1
 obtain ⟨a4, c4, rfl, _⟩ := IsD.len j4
 obtain ⟨a5, c5, rfl, _⟩ := IsD.len j5
 obtain ⟨a6, c6, rfl, _⟩ := IsD.len j6
 clear j1 j4 j5 j6 hAw
 obtain ⟨a2, c2, rfl, _⟩ := id hd
 clear hd hb X2 E2 Z2
 obtain ⟨W4, hW4⟩ : ∃ V, w3.alloc (.cells #[.int .i64 A.n, .slice a1 A.st.r.length c1, .int .i64 A.st.q, .int .i64 A.st.d, .slice a4 A.p.length c4, .slice a5 A.t.length c5, .slice a6 A.a.length c6] 36) = V := ⟨_, rfl⟩
 have hb4 : Below w3.heap.size w3 W4 := hW4 ▸ (Below.refl _ w3).alloc (Nat.le_refl _) _
 have HB34 : Hid (Below w3.heap.size w3 W4) := hb4
 have Q4 : Hid (Bk W4 w3.heap.size 36 #[.int .i64 A.n, .slice a1 A.st.r.length c1, .int .i64 A.st.q, .int .i64 A.st.d, .slice a4 A.p.length c4, .slice a5 A.t.length c5, .slice a6 A.a.length c6]) := hW4 ▸ Bk.new w3 _ _
 have Z4 : Hid (Bk W4 (w.heap.size + 1 + 1) 36 #[.int .i64 0, .slice none 0 0, .int .i64 0, .int .i64 0, .slice none 0 0, .slice none 0 0, .slice none 0 0]) := Z3.out.below hb4
 have X4 : Hid (Bk W4 w.heap.size 36 #[.int .i64 p.n, u1, .int .i64 p.st.q, .int .i64 p.st.d, u4, u5, u6]) := X3.out.below hb4
 have HB4 : Hid (Below w.heap.size w W4) := HB3.out.trans (hb4.mono HB3.out.size)
 have hs4 : w3.heap.size < W4.heap.size := Q4.out.lt
 clear hb4 Z3 X3
 have q0 := Q4.out.cell (i := 0) rfl
 have q1 := Q4.out.cell (i := 1) rfl
 have q2 := Q4.out.cell (i := 2) rfl
 have q3 := Q4.out.cell (i := 3) rfl
 have q4 := Q4.out.cell (i := 4) rfl
 have q5 := Q4.out.cell (i := 5) rfl
 have q6 := Q4.out.cell (i := 6) rfl
 go_wp2_with fail
 clear hW4 q0 q1 q2 q3 q4 q5 q6
 refine (sPartOk_is _ A _ HAW.out (HP3.out.under HB34.out)).mono ?_
 rintro r w5 ⟨rfl, hb⟩
 have HB45 : Hid (Below w3.heap.size w3 w5) := HB34.out.trans (hb.mono HB34.out.size)
 have HB5 : Hid (Below w.heap.size w w5) := HB4.out.trans (hb.mono HB4.out.size)
 have hs5 : W4.heap.size ≤ w5.heap.size := hb.size
 have Z5 : Hid (Bk w5 (w.heap.size + 1 + 1) 36 #[.int .i64 0, .slice none 0 0, .int .i64 0, .int .i64 0, .slice none 0 0, .slice none 0 0, .slice none 0 0]) := Z4.out.below hb
 have X5' : Hid (Bk w5 w.heap.size 36 #[.int .i64 p.n, u1, .int .i64 p.st.q, .int .i64 p.st.d, u4, u5, u6]) := X4.out.below hb
 have Q5 : Hid (Bk w5 w3.heap.size 36 #[.int .i64 A.n, .slice a1 A.st.r.length c1, .int .i64 A.st.q, .int .i64 A.st.d, .slice a4 A.p.length c4, .slice a5 A.t.length c5, .slice a6 A.a.length c6]) := Q4.out.below hb
 clear hb Z4 X4 Q4
 cases hoa : A.ok
 case false =>
  have HOA : Hid (A.ok = false) := hoa
  clear hoa
  have x0 := X5'.out.cell (i := 0) rfl
  have x1 := X5'.out.cell (i := 1) rfl
  have x2 := X5'.out.cell (i := 2) rfl
  have x3 := X5'.out.cell (i := 3) rfl
  have x4 := X5'.out.cell (i := 4) rfl
  have x5 := X5'.out.cell (i := 5) rfl
  have x6 := X5'.out.cell (i := 6) rfl
  go_wp2_with fail
  clear x0 x1 x2 x3 x4 x5 x6
  refine (l4own_any _ p _ (by have := HWT.out; omega) (HI.out.under HB5.out)).mono ?_
  rintro r w6 ⟨y, rfl, hb, hF⟩
  have HB6 : Hid (Below w.heap.size w w6) := HB5.out.trans (hb.mono HB5.out.size)
  have hs6 : w5.heap.size ≤ w6.heap.size := hb.size
  have Z6 : Hid (Bk w6 (w.heap.size + 1 + 1) 36 #[.int .i64 0, .slice none 0 0, .int .i64 0, .int .i64 0, .slice none 0 0, .slice none 0 0, .slice none 0 0]) := Z5.out.below hb
  have HF6 : Hid (PartF (fun b => w5.heap.size ≤ b ∧ b < w6.heap.size) w6 y p) := hF
  obtain ⟨r1, s1, r4, s4, r5, s5, r6, s6, rfl⟩ := PartF.form hF
  clear hb hF Z5 X5' Q5
  have z0 := Z6.out.cell (i := 0) rfl
  have z1 := Z6.out.cell (i := 1) rfl
  have z2 := Z6.out.cell (i := 2) rfl
  have z3 := Z6.out.cell (i := 3) rfl
  have z4 := Z6.out.cell (i := 4) rfl
  have z5 := Z6.out.cell (i := 5) rfl
  have z6 := Z6.out.cell (i := 6) rfl
  have zf := Z6.out.free
  obtain ⟨X5, hX5⟩ : ∃ X5, put7s w6 (w.heap.size + 1 + 1) (.int .i64 p.n) (.slice r1 p.st.r.length s1) (.int .i64 p.st.q) (.int .i64 p.st.d) (.slice r4 p.p.length s4) (.slice r5 p.t.length s5) (.slice r6 p.a.length s6) = X5 := ⟨_, rfl⟩
  have hP := Z6.out.put7s (.int .i64 p.n) (.slice r1 p.st.r.length s1) (.int .i64 p.st.q) (.int .i64 p.st.d) (.slice r4 p.p.length s4) (.slice r5 p.t.length s5) (.slice r6 p.a.length s6)
  have ht := put7s_turns w6 (w.heap.size + 1 + 1) (.int .i64 p.n) (.slice r1 p.st.r.length s1) (.int .i64 p.st.q) (.int .i64 p.st.d) (.slice r4 p.p.length s4) (.slice r5 p.t.length s5) (.slice r6 p.a.length s6)
  rw [hX5] at hP ht
  unfold put7s at hX5
  have HX5 : Hid _ := hX5
  have HP5 : Hid (Bk X5 (w.heap.size + 1 + 1) 36 #[.int .i64 p.n, .slice r1 p.st.r.length s1, .int .i64 p.st.q, .int .i64 p.st.d, .slice r4 p.p.length s4, .slice r5 p.t.length s5, .slice r6 p.a.length s6]) := hP
  have HT5 : Hid (Turns (fun b => b = (w.heap.size + 1 + 1)) w6 X5) := ht
  clear hX5 hP ht
  go_wp2
  try rw [HX5.out]
  have t0 := HP5.out.cell (i := 0) rfl
  have t1 := HP5.out.cell (i := 1) rfl
  have t2 := HP5.out.cell (i := 2) rfl
  have t3 := HP5.out.cell (i := 3) rfl
  have t4 := HP5.out.cell (i := 4) rfl
  have t5 := HP5.out.cell (i := 5) rfl
  have t6 := HP5.out.cell (i := 6) rfl
  refine bodyPost_ret (v := .tuple #[.agg #[.int .i64 p.n, .slice r1 p.st.r.length s1, .int .i64 p.st.q, .int .i64 p.st.d, .slice r4 p.p.length s4, .slice r5 p.t.length s5, .slice r6 p.a.length s6], .slice none 0 0]) (by simp [results, Try.results16, go_sem, t0, t1, t2, t3, t4, t5, t6]) rfl ?_
  have hA : backA p e = p ∧ backB p e = [] := by unfold backA backB; rw [HOK.out, HEV.out, HAL.out.1, HOA.out]; exact ⟨rfl, rfl⟩
  rw [hA.1, hA.2]
  have hsx := HT5.out.size
  exact ⟨_, _, rfl, HB6.out.trans (HT5.out.to_below (fun b e => by omega) HB6.out.size), _, fun _ => False, HF6.out.turns HT5.out (fun b hb e => by omega), nilE _, fun b hb => ⟨by omega, id⟩, fun b hb => hb.elim⟩
 have HOA : Hid (A.ok = true) := hoa
 clear hoa X5'
 have q0 := Q5.out.cell (i := 0) rfl
 have q1 := Q5.out.cell (i := 1) rfl
 have q2 := Q5.out.cell (i := 2) rfl
 have q3 := Q5.out.cell (i := 3) rfl
 have q4 := Q5.out.cell (i := 4) rfl
 have q5 := Q5.out.cell (i := 5) rfl
 have q6 := Q5.out.cell (i := 6) rfl
 go_wp2_with fail
 clear q0 q1 q2 q3 q4 q5 q6
 refine (l4own_any _ A _ (by have := HAW.out; omega) (HP3.out.under HB45.out)).mono ?_
 rintro r w6 ⟨y, rfl, hb, hF⟩
 have HB6 : Hid (Below w.heap.size w w6) := HB5.out.trans (hb.mono HB5.out.size)
 have hs6 : w5.heap.size ≤ w6.heap.size := hb.size
 have Z6 : Hid (Bk w6 (w.heap.size + 1 + 1) 36 #[.int .i64 0, .slice none 0 0, .int .i64 0, .int .i64 0, .slice none 0 0, .slice none 0 0, .slice none 0 0]) := Z5.out.below hb
 have HF6 : Hid (PartF (fun b => w5.heap.size ≤ b ∧ b < w6.heap.size) w6 y A) := hF
 have HD6 : Hid (IsEvs w6 (.slice a2 L.length c2) L) := (HD3.out.below HB45.out).below hb
 obtain ⟨r1, s1, r4, s4, r5, s5, r6, s6, rfl⟩ := PartF.form hF
 clear hb hF Z5 Q5
 go_wp2_with fail
 refine (l1own_src _ L _ (by omega) (SrcC.ofEvs HD6.out)).mono ?_
 rintro r w7 ⟨y2, rfl, ho, hb⟩
 have HF7 : Hid (PartF (fun b => w5.heap.size ≤ b ∧ b < w6.heap.size) w7 (.agg #[.int .i64 A.n, .slice r1 A.st.r.length s1, .int .i64 A.st.q, .int .i64 A.st.d, .slice r4 A.p.length s4, .slice r5 A.t.length s5, .slice r6 A.a.length s6]) A) := HF6.out.under hb
 have HO7 : Hid (OwnD w7 (fun b => w6.heap.size ≤ b ∧ b < w7.heap.size) y2 (evsD L)) := ownE ho
 have HB7 : Hid (Below w.heap.size w w7) := HB6.out.trans (hb.mono HB6.out.size)
 have hs7 : w6.heap.size ≤ w7.heap.size := hb.size
 have Z7' : Hid (Bk w7 (w.heap.size + 1 + 1) 36 #[.int .i64 0, .slice none 0 0, .int .i64 0, .int .i64 0, .slice none 0 0, .slice none 0 0, .slice none 0 0]) := Z6.out.below hb
 obtain ⟨a7, c7, rfl⟩ := owns_slice ho
 clear hb ho Z6
 have z0 := Z7'.out.cell (i := 0) rfl
 have z1 := Z7'.out.cell (i := 1) rfl
 have z2 := Z7'.out.cell (i := 2) rfl
 have z3 := Z7'.out.cell (i := 3) rfl
 have z4 := Z7'.out.cell (i := 4) rfl
 have z5 := Z7'.out.cell (i := 5) rfl
 have z6 := Z7'.out.cell (i := 6) rfl
 have zf := Z7'.out.free
 obtain ⟨X5, hX5⟩ : ∃ X5, put7s w7 (w.heap.size + 1 + 1) (.int .i64 A.n) (.slice r1 A.st.r.length s1) (.int .i64 A.st.q) (.int .i64 A.st.d) (.slice r4 A.p.length s4) (.slice r5 A.t.length s5) (.slice r6 A.a.length s6) = X5 := ⟨_, rfl⟩
 have hP := Z7'.out.put7s (.int .i64 A.n) (.slice r1 A.st.r.length s1) (.int .i64 A.st.q) (.int .i64 A.st.d) (.slice r4 A.p.length s4) (.slice r5 A.t.length s5) (.slice r6 A.a.length s6)
 have ht := put7s_turns w7 (w.heap.size + 1 + 1) (.int .i64 A.n) (.slice r1 A.st.r.length s1) (.int .i64 A.st.q) (.int .i64 A.st.d) (.slice r4 A.p.length s4) (.slice r5 A.t.length s5) (.slice r6 A.a.length s6)
 rw [hX5] at hP ht
 unfold put7s at hX5
 have HX5 : Hid _ := hX5
 have HP5 : Hid (Bk X5 (w.heap.size + 1 + 1) 36 #[.int .i64 A.n, .slice r1 A.st.r.length s1, .int .i64 A.st.q, .int .i64 A.st.d, .slice r4 A.p.length s4, .slice r5 A.t.length s5, .slice r6 A.a.length s6]) := hP
 have HT5 : Hid (Turns (fun b => b = (w.heap.size + 1 + 1)) w7 X5) := ht
 clear hX5 hP ht
 go_wp2
 try rw [HX5.out]
 have t0 := HP5.out.cell (i := 0) rfl
 have t1 := HP5.out.cell (i := 1) rfl
 have t2 := HP5.out.cell (i := 2) rfl
 have t3 := HP5.out.cell (i := 3) rfl
 have t4 := HP5.out.cell (i := 4) rfl
 have t5 := HP5.out.cell (i := 5) rfl
 have t6 := HP5.out.cell (i := 6) rfl
 refine bodyPost_ret (v := .tuple #[.agg #[.int .i64 A.n, .slice r1 A.st.r.length s1, .int .i64 A.st.q, .int .i64 A.st.d, .slice r4 A.p.length s4, .slice r5 A.t.length s5, .slice r6 A.a.length s6], .slice a7 L.length c7]) (by simp [results, Try.results16, go_sem, t0, t1, t2, t3, t4, t5, t6]) rfl ?_
 have hA : backA p e = A ∧ backB p e = L := by unfold backA backB; rw [HOK.out, HEV.out, HAL.out.1, HAL.out.2, HOA.out]; exact ⟨rfl, rfl⟩
 rw [hA.1, hA.2]
 have hsx := HT5.out.size
 exact ⟨_, _, rfl, HB7.out.trans (HT5.out.to_below (fun b e => by omega) HB7.out.size), _, _, HF7.out.turns HT5.out (fun b hb e => by omega), HO7.out.turns HT5.out (fun b hb e => by omega), fun b hb => ⟨by omega, fun hg => by omega⟩, fun b hb => by omega⟩
end Go.Proofs.Ytdcnimdhfhbdmaa

