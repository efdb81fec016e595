/- The specification's Trim. -/
import Derived.Test.YtdcnimdhfhbdmaaExactBackG12
import Derived.Test.YtdcnimdhfhbdmaaExactBackG21
import Derived.Test.YtdcnimdhfhbdmaaExactBackG13
namespace Go.Proofs.Ytdcnimdhfhbdmaa
open Go.RowKit
def cutK (l : List Ps) (e : Ev) : Nat := (l.takeWhile fun q => decide (q.e.cmp e < 0)).length
theorem cutK_at : ∀ (l : List Ps) (e : Ev), CutAt l e (cutK l e)
  | [], e => ⟨by simp [cutK], fun j hj => by simp [cutK] at hj, fun h => by simp [cutK] at h⟩
  | q :: l, e => by
    have ih := cutK_at l e
    by_cases h : q.e.cmp e < 0
    · have hk : cutK (q :: l) e = cutK l e + 1 := by simp [cutK, List.takeWhile, h]
      rw [hk]
      refine ⟨by have := ih.le; simp; omega, fun j hj => ?_, fun hlt => ?_⟩
      · cases j with
        | zero => exact h
        | succ j => exact ih.lo j (by omega)
      · exact ih.hi (by simp at hlt; omega)
    · have hk : cutK (q :: l) e = 0 := by simp [cutK, List.takeWhile, h]
      rw [hk]
      exact ⟨Nat.zero_le _, fun j hj => by omega, fun _ => h⟩
theorem CutAt.is {l : List Ps} {e : Ev} {k : Nat} (h : CutAt l e k) : k = cutK l e := h.same (cutK_at l e)
theorem drop_wt (l : List Ps) {k : Nat} (hk : k ≤ l.length) : (pastsD (l.drop k)).wt ≤ (pastsD l).wt := by
  rw [pastsD_wt, pastsD_wt, List.length_drop]
  have h := sumL_add (fun i => (psAt l i).wt) k (l.length - k)
  rw [show k + (l.length - k) = l.length by omega] at h
  have e : sumL (fun i => (psAt (l.drop k) i).wt) (l.length - k) = sumL (fun i => (psAt l (k + i)).wt) (l.length - k) := sumL_congr (fun i _ => by rw [psAt_drop])
  omega
theorem take_wt (l : List Ps) {k : Nat} (hk : k ≤ l.length) : (pastsD (l.take k)).wt ≤ (pastsD l).wt := by
  rw [pastsD_wt, pastsD_wt, List.length_take, Nat.min_eq_left hk]
  have e : sumL (fun i => (psAt (l.take k) i).wt) k = sumL (fun i => (psAt l i).wt) k := sumL_congr (fun i hi => by rw [psAt_take hi])
  have := sumL_mono (fun i => (psAt l i).wt) hk
  omega
theorem Pa.cut_wt (p : Pa) {k : Nat} (hk : k ≤ p.p.length) : (p.cut k).wt ≤ p.wt := by
  have := drop_wt p.p hk
  unfold Pa.wt Pa.cut
  show (intsD p.st.r).wt + (pastsD (p.p.drop k)).wt + (evsD p.t).wt + (intsD p.a).wt ≤ _
  omega
def Pa.none : Pa := ⟨0, ⟨[], 0, 0⟩, [], [], []⟩
noncomputable def trimA (p : Pa) (e : Ev) : Pa := if (p.ok && e.ok) = true then p.cut (cutK p.p e) else Pa.none
noncomputable def trimB (p : Pa) (e : Ev) : List Ps := if (p.ok && e.ok) = true then p.p.take (cutK p.p e) else []
def TrimAns (w w' : World) (r : Ending) (a : Pa) (l : List Ps) : Prop := ∃ (y1 y2 : Value) (F G : Nat → Prop), r = .returned (.tuple #[y1, y2]) ∧ PartF F w' y1 a ∧ OwnD w' G y2 (pastsD l) ∧ (∀ k, F k → (w.heap.size ≤ k ∧ k < w'.heap.size) ∧ ¬ G k) ∧ (∀ k, G k → w.heap.size ≤ k ∧ k < w'.heap.size) ∧ Below w.heap.size w w'
theorem none_partF (w : World) (F : Nat → Prop) : PartF F w (.agg #[.int .i64 0, .slice none 0 0, .int .i64 0, .int .i64 0, .slice none 0 0, .slice none 0 0, .slice none 0 0]) Pa.none :=
  ⟨fun _ => False, fun _ => False, fun _ => False, fun _ => False, _, _, _, _, rfl, .nil _ _ _ _ _ (Nat.zero_le _), .nil _ _ _ _ _ (Nat.zero_le _), .nil _ _ _ _ _ (Nat.zero_le _), .nil _ _ _ _ _ (Nat.zero_le _), fun _ h => h.elim, fun _ h => h.elim, fun _ h => h.elim, fun _ h => h.elim⟩
set_option maxRecDepth 100000 in
set_option maxHeartbeats 16000000 in
theorem sTrim (x : Value) (p : Pa) (e : Ev) (w : World) (hw : p.wt ≤ 1048576) (h : IsPart w x p) :
    Calls Try.prog 6 #[x, .agg #[.int .i64 e.t, .int .i64 e.s, .int .i64 e.q, .int .i64 e.d, .int .i64 e.k, .int .i64 e.v, .int .i64 e.g]] w fun r w' => TrimAns w w' r (trimA p e) (trimB p e) := by
  have HI : Hid (IsPart w x p) := h
  have HWT : Hid (p.wt ≤ 1048576) := hw
  obtain ⟨u1, u4, u5, u6, rfl, d1, d4, d5, d6⟩ := h
  obtain ⟨W0, hW0⟩ : ∃ W0, ((w.alloc (.cells #[.int .i64 p.n, u1, .int .i64 p.st.q, .int .i64 p.st.d, u4, u5, u6] 36)).alloc (.cells #[.int .i64 e.t, .int .i64 e.s, .int .i64 e.q, .int .i64 e.d, .int .i64 e.k, .int .i64 e.v, .int .i64 e.g] 40)).alloc (.cells #[.int .i64 0, .slice none 0 0, .int .i64 0, .int .i64 0, .slice none 0 0, .slice none 0 0, .slice none 0 0] 36) = W0 := ⟨_, rfl⟩
  have hz0 : W0.heap.size = w.heap.size + 1 + 1 + 1 := by rw [← hW0]; simp
  have hb0 : Below w.heap.size w W0 := hW0 ▸ (((Below.refl _ w).alloc (Nat.le_refl _) _).alloc (by simp) _).alloc (by simp; omega) _
  have HB0 : Hid (Below w.heap.size w W0) := hb0
  have BX : Hid (Bk W0 w.heap.size 36 #[.int .i64 p.n, u1, .int .i64 p.st.q, .int .i64 p.st.d, u4, u5, u6]) := hW0 ▸ ((Bk.new w _ _).alloc _).alloc _
  have BE : Hid (Bk W0 (w.heap.size + 1) 40 #[.int .i64 e.t, .int .i64 e.s, .int .i64 e.q, .int .i64 e.d, .int .i64 e.k, .int .i64 e.v, .int .i64 e.g]) := hW0 ▸ (Bk.newAt (by simp) _ _).alloc _
  have BZ : Hid (Bk W0 (w.heap.size + 1 + 1) 36 #[.int .i64 0, .slice none 0 0, .int .i64 0, .int .i64 0, .slice none 0 0, .slice none 0 0, .slice none 0 0]) := hW0 ▸ Bk.newAt (by simp) _ _
  have hz0' : W0.heap.size ≤ w.heap.size + 1 + 1 + 1 ∧ w.heap.size + 1 + 1 + 1 ≤ W0.heap.size := by omega
  clear hb0 d1 d4 d5 d6 hw hz0
  have x0 := BX.out.cell (i := 0) rfl
  have x1 := BX.out.cell (i := 1) rfl
  have x2 := BX.out.cell (i := 2) rfl
  have x3 := BX.out.cell (i := 3) rfl
  have x4 := BX.out.cell (i := 4) rfl
  have x5 := BX.out.cell (i := 5) rfl
  have x6 := BX.out.cell (i := 6) rfl
  go_enter Try.func6, Try.ntmps6
  go_wp2_with fail
  clear hW0 x0 x1 x2 x3 x4 x5 x6
  refine (sPartOk_is _ p _ HWT.out (HI.out.under HB0.out)).mono ?_
  rintro r w1 ⟨rfl, hb⟩
  have HB1 : Hid (Below w.heap.size w w1) := HB0.out.trans (hb.mono HB0.out.size)
  have hs1 : W0.heap.size ≤ w1.heap.size := hb.size
  have X1 : Hid (Bk w1 w.heap.size 36 #[.int .i64 p.n, u1, .int .i64 p.st.q, .int .i64 p.st.d, u4, u5, u6]) := BX.out.below hb
  have E1 : Hid (Bk w1 (w.heap.size + 1) 40 #[.int .i64 e.t, .int .i64 e.s, .int .i64 e.q, .int .i64 e.d, .int .i64 e.k, .int .i64 e.v, .int .i64 e.g]) := BE.out.below hb
  have Z1 : Hid (Bk w1 (w.heap.size + 1 + 1) 36 #[.int .i64 0, .slice none 0 0, .int .i64 0, .int .i64 0, .slice none 0 0, .slice none 0 0, .slice none 0 0]) := BZ.out.below hb
  clear hb BX BE BZ
  cases hok : p.ok
  case false =>
    have HOK : Hid (p.ok = false) := hok
    have ZN := Z1
    have BN := HB1
    clear hok
    have z0 := ZN.out.cell (i := 0) rfl
    have z1 := ZN.out.cell (i := 1) rfl
    have z2 := ZN.out.cell (i := 2) rfl
    have z3 := ZN.out.cell (i := 3) rfl
    have z4 := ZN.out.cell (i := 4) rfl
    have z5 := ZN.out.cell (i := 5) rfl
    have z6 := ZN.out.cell (i := 6) rfl
    have zf := ZN.out.free
    obtain ⟨X5, hX5⟩ : ∃ X5, put7s w1 (w.heap.size + 1 + 1) (.int .i64 0) (.slice none 0 0) (.int .i64 0) (.int .i64 0) (.slice none 0 0) (.slice none 0 0) (.slice none 0 0) = X5 := ⟨_, rfl⟩
    have hP := ZN.out.put7s (.int .i64 0) (.slice none 0 0) (.int .i64 0) (.int .i64 0) (.slice none 0 0) (.slice none 0 0) (.slice none 0 0)
    have ht := put7s_turns w1 (w.heap.size + 1 + 1) (.int .i64 0) (.slice none 0 0) (.int .i64 0) (.int .i64 0) (.slice none 0 0) (.slice none 0 0) (.slice none 0 0)
    rw [hX5] at hP ht
    unfold put7s at hX5
    have HX5 : Hid _ := hX5
    have HP5 : Hid (Bk X5 (w.heap.size + 1 + 1) 36 #[.int .i64 0, .slice none 0 0, .int .i64 0, .int .i64 0, .slice none 0 0, .slice none 0 0, .slice none 0 0]) := hP
    have HT5 : Hid (Turns (fun b => b = (w.heap.size + 1 + 1)) w1 X5) := ht
    clear hX5 hP ht
    go_wp2
    try rw [HX5.out]
    have t0 := HP5.out.cell (i := 0) rfl
    have t1 := HP5.out.cell (i := 1) rfl
    have t2 := HP5.out.cell (i := 2) rfl
    have t3 := HP5.out.cell (i := 3) rfl
    have t4 := HP5.out.cell (i := 4) rfl
    have t5 := HP5.out.cell (i := 5) rfl
    have t6 := HP5.out.cell (i := 6) rfl
    refine bodyPost_ret (v := .tuple #[.agg #[.int .i64 0, .slice none 0 0, .int .i64 0, .int .i64 0, .slice none 0 0, .slice none 0 0, .slice none 0 0], .slice none 0 0]) (by simp [results, Try.results6, go_sem, t0, t1, t2, t3, t4, t5, t6]) rfl ?_
    have hA : trimA p e = Pa.none ∧ trimB p e = [] := by unfold trimA trimB; rw [HOK.out]; exact ⟨rfl, rfl⟩
    rw [hA.1, hA.2]
    exact ⟨_, .slice none 0 0, fun _ => False, fun _ => False, rfl, none_partF _ _, .nil _ _ _ _ _ (Nat.zero_le _), fun _ h => h.elim, fun _ h => h.elim, BN.out.trans (HT5.out.to_below (fun b e => by omega) BN.out.size)⟩
  have HOK : Hid (p.ok = true) := hok
  clear hok
  have e0 := E1.out.cell (i := 0) rfl
  have e1 := E1.out.cell (i := 1) rfl
  have e2 := E1.out.cell (i := 2) rfl
  have e3 := E1.out.cell (i := 3) rfl
  have e4 := E1.out.cell (i := 4) rfl
  have e5 := E1.out.cell (i := 5) rfl
  have e6 := E1.out.cell (i := 6) rfl
  go_wp2_with fail
  clear e0 e1 e2 e3 e4 e5 e6
  refine (sOk_ev e e.ok rfl _).mono ?_
  rintro r w2 ⟨rfl, hb⟩
  have HB2 : Hid (Below w.heap.size w w2) := HB1.out.trans (hb.mono HB1.out.size)
  have hs2 : w1.heap.size ≤ w2.heap.size := hb.size
  have X2 : Hid (Bk w2 w.heap.size 36 #[.int .i64 p.n, u1, .int .i64 p.st.q, .int .i64 p.st.d, u4, u5, u6]) := X1.out.below hb
  have E2 : Hid (Bk w2 (w.heap.size + 1) 40 #[.int .i64 e.t, .int .i64 e.s, .int .i64 e.q, .int .i64 e.d, .int .i64 e.k, .int .i64 e.v, .int .i64 e.g]) := E1.out.below hb
  have Z2 : Hid (Bk w2 (w.heap.size + 1 + 1) 36 #[.int .i64 0, .slice none 0 0, .int .i64 0, .int .i64 0, .slice none 0 0, .slice none 0 0, .slice none 0 0]) := Z1.out.below hb
  clear hb X1 E1 Z1
  cases hev : e.ok
  case false =>
    have HEV : Hid (e.ok = false) := hev
    have ZN := Z2
    have BN := HB2
    clear hev
    have z0 := ZN.out.cell (i := 0) rfl
    have z1 := ZN.out.cell (i := 1) rfl
    have z2 := ZN.out.cell (i := 2) rfl
    have z3 := ZN.out.cell (i := 3) rfl
    have z4 := ZN.out.cell (i := 4) rfl
    have z5 := ZN.out.cell (i := 5) rfl
    have z6 := ZN.out.cell (i := 6) rfl
    have zf := ZN.out.free
    obtain ⟨X5, hX5⟩ : ∃ X5, put7s w2 (w.heap.size + 1 + 1) (.int .i64 0) (.slice none 0 0) (.int .i64 0) (.int .i64 0) (.slice none 0 0) (.slice none 0 0) (.slice none 0 0) = X5 := ⟨_, rfl⟩
    have hP := ZN.out.put7s (.int .i64 0) (.slice none 0 0) (.int .i64 0) (.int .i64 0) (.slice none 0 0) (.slice none 0 0) (.slice none 0 0)
    have ht := put7s_turns w2 (w.heap.size + 1 + 1) (.int .i64 0) (.slice none 0 0) (.int .i64 0) (.int .i64 0) (.slice none 0 0) (.slice none 0 0) (.slice none 0 0)
    rw [hX5] at hP ht
    unfold put7s at hX5
    have HX5 : Hid _ := hX5
    have HP5 : Hid (Bk X5 (w.heap.size + 1 + 1) 36 #[.int .i64 0, .slice none 0 0, .int .i64 0, .int .i64 0, .slice none 0 0, .slice none 0 0, .slice none 0 0]) := hP
    have HT5 : Hid (Turns (fun b => b = (w.heap.size + 1 + 1)) w2 X5) := ht
    clear hX5 hP ht
    go_wp2
    try rw [HX5.out]
    have t0 := HP5.out.cell (i := 0) rfl
    have t1 := HP5.out.cell (i := 1) rfl
    have t2 := HP5.out.cell (i := 2) rfl
    have t3 := HP5.out.cell (i := 3) rfl
    have t4 := HP5.out.cell (i := 4) rfl
    have t5 := HP5.out.cell (i := 5) rfl
    have t6 := HP5.out.cell (i := 6) rfl
    refine bodyPost_ret (v := .tuple #[.agg #[.int .i64 0, .slice none 0 0, .int .i64 0, .int .i64 0, .slice none 0 0, .slice none 0 0, .slice none 0 0], .slice none 0 0]) (by simp [results, Try.results6, go_sem, t0, t1, t2, t3, t4, t5, t6]) rfl ?_
    have hA : trimA p e = Pa.none ∧ trimB p e = [] := by unfold trimA trimB; rw [HOK.out, HEV.out]; exact ⟨rfl, rfl⟩
    rw [hA.1, hA.2]
    exact ⟨_, .slice none 0 0, fun _ => False, fun _ => False, rfl, none_partF _ _, .nil _ _ _ _ _ (Nat.zero_le _), fun _ h => h.elim, fun _ h => h.elim, BN.out.trans (HT5.out.to_below (fun b e => by omega) BN.out.size)⟩
  have HEV : Hid (e.ok = true) := hev
  clear hev
  have x0 := X2.out.cell (i := 0) rfl
  have x1 := X2.out.cell (i := 1) rfl
  have x2 := X2.out.cell (i := 2) rfl
  have x3 := X2.out.cell (i := 3) rfl
  have x4 := X2.out.cell (i := 4) rfl
  have x5 := X2.out.cell (i := 5) rfl
  have x6 := X2.out.cell (i := 6) rfl
  have e0 := E2.out.cell (i := 0) rfl
  have e1 := E2.out.cell (i := 1) rfl
  have e2 := E2.out.cell (i := 2) rfl
  have e3 := E2.out.cell (i := 3) rfl
  have e4 := E2.out.cell (i := 4) rfl
  have e5 := E2.out.cell (i := 5) rfl
  have e6 := E2.out.cell (i := 6) rfl
  go_wp2_with fail
  clear e0 x0 e1 x1 e2 x2 e3 x3 e4 x4 e5 x5 e6 x6
  refine (l4trim_any _ p e _ (by have := HWT.out; omega) (HI.out.under HB2.out)).mono ?_
  rintro r w3 ⟨y1, y2, k, rfl, hc, hp, hd, hb⟩
  have HC : Hid (CutAt p.p e k) := hc
  have HB3 : Hid (Below w.heap.size w w3) := HB2.out.trans (hb.mono HB2.out.size)
  have hs3 : w2.heap.size ≤ w3.heap.size := hb.size
  have Z3 : Hid (Bk w3 (w.heap.size + 1 + 1) 36 #[.int .i64 0, .slice none 0 0, .int .i64 0, .int .i64 0, .slice none 0 0, .slice none 0 0, .slice none 0 0]) := Z2.out.below hb
  have HP3 : Hid (IsPart w3 y1 (p.cut k)) := hp
  have HD3 : Hid (IsD w3 y2 (pastsD (p.p.take k))) := hd
  obtain ⟨v1, v4, v5, v6, rfl, j1, j4, j5, j6⟩ := hp
  obtain ⟨a1, c1, rfl, _⟩ := IsD.len j1
  obtain ⟨a4, c4, rfl, _⟩ := IsD.len j4
  obtain ⟨a5, c5, rfl, _⟩ := IsD.len j5
  obtain ⟨a6, c6, rfl, _⟩ := IsD.len j6
  clear j1 j4 j5 j6
  obtain ⟨a2, c2, rfl, _⟩ := IsD.len hd
  clear hc hd hb X2 E2 Z2
  obtain ⟨W4, hW4⟩ : ∃ V, w3.alloc (.cells #[.int .i64 (p.cut k).n, .slice a1 (p.cut k).st.r.length c1, .int .i64 (p.cut k).st.q, .int .i64 (p.cut k).st.d, .slice a4 (p.cut k).p.length c4, .slice a5 (p.cut k).t.length c5, .slice a6 (p.cut k).a.length c6] 36) = V := ⟨_, rfl⟩
  have hb4 : Below w3.heap.size w3 W4 := hW4 ▸ (Below.refl _ w3).alloc (Nat.le_refl _) _
  have HB34 : Hid (Below w3.heap.size w3 W4) := hb4
  have Q4 : Hid (Bk W4 w3.heap.size 36 #[.int .i64 (p.cut k).n, .slice a1 (p.cut k).st.r.length c1, .int .i64 (p.cut k).st.q, .int .i64 (p.cut k).st.d, .slice a4 (p.cut k).p.length c4, .slice a5 (p.cut k).t.length c5, .slice a6 (p.cut k).a.length c6]) := hW4 ▸ Bk.new w3 _ _
  have Z4 : Hid (Bk W4 (w.heap.size + 1 + 1) 36 #[.int .i64 0, .slice none 0 0, .int .i64 0, .int .i64 0, .slice none 0 0, .slice none 0 0, .slice none 0 0]) := Z3.out.below hb4
  have HB4 : Hid (Below w.heap.size w W4) := HB3.out.trans (hb4.mono HB3.out.size)
  have hs4 : w3.heap.size ≤ W4.heap.size := hb4.size
  clear hb4
  have x0 := Q4.out.cell (i := 0) rfl
  have x1 := Q4.out.cell (i := 1) rfl
  have x2 := Q4.out.cell (i := 2) rfl
  have x3 := Q4.out.cell (i := 3) rfl
  have x4 := Q4.out.cell (i := 4) rfl
  have x5 := Q4.out.cell (i := 5) rfl
  have x6 := Q4.out.cell (i := 6) rfl
  obtain ⟨m2, hm2⟩ : ∃ m, (p.p.take k).length = m := ⟨_, rfl⟩
  rw [hm2] at HD3 ⊢
  clear hm2
  go_wp2_with fail
  clear hW4 x0 x1 x2 x3 x4 x5 x6
  refine (l4own_any _ (p.cut k) _ (by have := Pa.cut_wt p HC.out.le; have := HWT.out; omega) (HP3.out.under HB34.out)).mono ?_
  rintro r w5 ⟨y, rfl, hb, hF⟩
  have HF5 : Hid (PartF (fun b => W4.heap.size ≤ b ∧ b < w5.heap.size) w5 y (p.cut k)) := hF
  have HB5 : Hid (Below w.heap.size w w5) := HB4.out.trans (hb.mono HB4.out.size)
  have hs5 : W4.heap.size ≤ w5.heap.size := hb.size
  have Z5 : Hid (Bk w5 (w.heap.size + 1 + 1) 36 #[.int .i64 0, .slice none 0 0, .int .i64 0, .int .i64 0, .slice none 0 0, .slice none 0 0, .slice none 0 0]) := Z4.out.below hb
  have HD5 : Hid (IsD w5 (.slice a2 m2 c2) (pastsD (p.p.take k))) := (HD3.out.under HB34.out).under hb
  obtain ⟨r1, s1, r4, s4, r5, s5, r6, s6, rfl⟩ := PartF.form hF
  clear hb hF Z4 Q4
  go_wp2_with fail
  refine (ownPast_any _ (p.p.take k) _ (by have := take_wt p.p HC.out.le; have := HWT.out; unfold Pa.wt at this; omega) HD5.out).mono ?_
  rintro r w6 ⟨y2, rfl, hb, hO⟩
  have HF6 : Hid (PartF (fun b => W4.heap.size ≤ b ∧ b < w5.heap.size) w6 (.agg #[.int .i64 (p.cut k).n, .slice r1 (p.cut k).st.r.length s1, .int .i64 (p.cut k).st.q, .int .i64 (p.cut k).st.d, .slice r4 (p.cut k).p.length s4, .slice r5 (p.cut k).t.length s5, .slice r6 (p.cut k).a.length s6]) (p.cut k)) := HF5.out.under hb
  have HO6 : Hid (OwnD w6 (fun b => w5.heap.size ≤ b ∧ b < w6.heap.size) y2 (pastsD (p.p.take k))) := hO
  have HB6 : Hid (Below w.heap.size w w6) := HB5.out.trans (hb.mono HB5.out.size)
  have hs6 : w5.heap.size ≤ w6.heap.size := hb.size
  have Z6 : Hid (Bk w6 (w.heap.size + 1 + 1) 36 #[.int .i64 0, .slice none 0 0, .int .i64 0, .int .i64 0, .slice none 0 0, .slice none 0 0, .slice none 0 0]) := Z5.out.below hb
  obtain ⟨a2', c2', rfl, _⟩ := OwnD.parts (c := 12) (n := (p.p.take k).length) hO
  clear hb hO Z5
  obtain ⟨m3, hm3⟩ : ∃ m, (p.p.take k).length = m := ⟨_, rfl⟩
  rw [hm3] at HO6 ⊢
  clear hm3
  have z0 := Z6.out.cell (i := 0) rfl
  have z1 := Z6.out.cell (i := 1) rfl
  have z2 := Z6.out.cell (i := 2) rfl
  have z3 := Z6.out.cell (i := 3) rfl
  have z4 := Z6.out.cell (i := 4) rfl
  have z5 := Z6.out.cell (i := 5) rfl
  have z6 := Z6.out.cell (i := 6) rfl
  have zf := Z6.out.free
  obtain ⟨X5, hX5⟩ : ∃ X5, put7s w6 (w.heap.size + 1 + 1) (.int .i64 (p.cut k).n) (.slice r1 (p.cut k).st.r.length s1) (.int .i64 (p.cut k).st.q) (.int .i64 (p.cut k).st.d) (.slice r4 (p.cut k).p.length s4) (.slice r5 (p.cut k).t.length s5) (.slice r6 (p.cut k).a.length s6) = X5 := ⟨_, rfl⟩
  have hP := Z6.out.put7s (.int .i64 (p.cut k).n) (.slice r1 (p.cut k).st.r.length s1) (.int .i64 (p.cut k).st.q) (.int .i64 (p.cut k).st.d) (.slice r4 (p.cut k).p.length s4) (.slice r5 (p.cut k).t.length s5) (.slice r6 (p.cut k).a.length s6)
  have ht := put7s_turns w6 (w.heap.size + 1 + 1) (.int .i64 (p.cut k).n) (.slice r1 (p.cut k).st.r.length s1) (.int .i64 (p.cut k).st.q) (.int .i64 (p.cut k).st.d) (.slice r4 (p.cut k).p.length s4) (.slice r5 (p.cut k).t.length s5) (.slice r6 (p.cut k).a.length s6)
  rw [hX5] at hP ht
  unfold put7s at hX5
  have HX5 : Hid _ := hX5
  have HP5 : Hid (Bk X5 (w.heap.size + 1 + 1) 36 #[.int .i64 (p.cut k).n, .slice r1 (p.cut k).st.r.length s1, .int .i64 (p.cut k).st.q, .int .i64 (p.cut k).st.d, .slice r4 (p.cut k).p.length s4, .slice r5 (p.cut k).t.length s5, .slice r6 (p.cut k).a.length s6]) := hP
  have HT5 : Hid (Turns (fun b => b = (w.heap.size + 1 + 1)) w6 X5) := ht
  clear hX5 hP ht
  go_wp2
  try rw [HX5.out]
  have t0 := HP5.out.cell (i := 0) rfl
  have t1 := HP5.out.cell (i := 1) rfl
  have t2 := HP5.out.cell (i := 2) rfl
  have t3 := HP5.out.cell (i := 3) rfl
  have t4 := HP5.out.cell (i := 4) rfl
  have t5 := HP5.out.cell (i := 5) rfl
  have t6 := HP5.out.cell (i := 6) rfl
  refine bodyPost_ret (v := .tuple #[.agg #[.int .i64 (p.cut k).n, .slice r1 (p.cut k).st.r.length s1, .int .i64 (p.cut k).st.q, .int .i64 (p.cut k).st.d, .slice r4 (p.cut k).p.length s4, .slice r5 (p.cut k).t.length s5, .slice r6 (p.cut k).a.length s6], .slice a2' m3 c2']) (by simp [results, Try.results6, go_sem, t0, t1, t2, t3, t4, t5, t6]) rfl ?_
  have hk := HC.out.is
  have hA : trimA p e = p.cut k ∧ trimB p e = p.p.take k := by unfold trimA trimB; rw [HOK.out, HEV.out, ← hk]; exact ⟨rfl, rfl⟩
  rw [hA.1, hA.2]
  have hsx := HT5.out.size
  exact ⟨_, _, _, _, rfl, HF6.out.turns HT5.out (fun b hb e => by omega), HO6.out.turns HT5.out (fun b hb e => by omega), fun b hb => ⟨by omega, fun hg => by omega⟩, fun b hb => by omega, HB6.out.trans (HT5.out.to_below (fun b e => by omega) HB6.out.size)⟩
end Go.Proofs.Ytdcnimdhfhbdmaa
