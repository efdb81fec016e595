/- PTd, PTe, PBt -/
import Derived.Test.YtdcnimdhfhbdmaaExactBackG28
import Derived.Test.YtdcnimdhfhbdmaaExactBackG29
import Derived.Test.YtdcnimdhfhbdmaaExactBackLPBs
/- The program's Trim. -/
namespace Go.Proofs.Ytdcnimdhfhbdmaa
open Go.RowKit
theorem ecmp_of' {a b : Ev} (ha : a.ok = true) (hb : b.ok = true) : a.ecmp b = a.cmp b := by
  unfold Ev.ecmp ecmp Ev.cmp
  rw [if_pos ⟨ha, hb⟩]
theorem found_cut {p : Pa} {e : Ev} (hp : p.ok = true) (he : e.ok = true) {i : Nat} (h1 : i ≤ p.p.length) (h2 : i = 0 ∨ (psAt p.p (i - 1)).e.ecmp e < 0) (h3 : i < p.p.length → ¬ (psAt p.p i).e.ecmp e < 0) : CutAt p.p e i := by
  have hS := (good_iff p).2 (by unfold Pa.ok at hp; simpa using hp)
  have hok : ∀ j, j < p.p.length → (psAt p.p j).e.ok = true := fun j hj => (hS.2.1 j hj).1
  have hlt : ∀ j, j < p.p.length → 0 < j → (psAt p.p (j - 1)).e.cmp (psAt p.p j).e < 0 := fun j hj h => (hS.2.1 j hj).2.2.2.2.2.2 h
  refine ⟨h1, fun j hj => ?_, fun hi => by rw [← ecmp_of' (hok i hi) he]; exact h3 hi⟩
  have hlast : (psAt p.p (i - 1)).e.cmp e < 0 := by
    rw [← ecmp_of' (hok (i - 1) (by omega)) he]
    exact h2.resolve_left (by omega)
  have down : ∀ d, d ≤ i - 1 → (psAt p.p (i - 1 - d)).e.cmp e < 0 := fun d => by
    induction d with
    | zero => exact fun _ => hlast
    | succ d ih =>
      intro hd
      have := hlt (i - 1 - d) (by omega) (by omega)
      rw [show i - 1 - d - 1 = i - 1 - (d + 1) by omega] at this
      exact cmp_trans this (ih (by omega))
  have := down (i - 1 - j) (by omega)
  rwa [show i - 1 - (i - 1 - j) = j by omega] at this
set_option maxRecDepth 100000 in
set_option maxHeartbeats 16000000 in
theorem iTrim (x : Value) (p : Pa) (e : Ev) (w : World) (hw : p.wt ≤ 1048576) (h : IsPart w x p) :
    Calls Try.prog 9 #[x, .agg #[.int .i64 e.t, .int .i64 e.s, .int .i64 e.q, .int .i64 e.d, .int .i64 e.k, .int .i64 e.v, .int .i64 e.g]] w fun r w' => TrimAns w w' r (trimA p e) (trimB p e) := by
  have HI : Hid (IsPart w x p) := h
  have HWT : Hid (p.wt ≤ 1048576) := hw
  obtain ⟨u1, u4, u5, u6, rfl, d1, d4, d5, d6⟩ := h
  obtain ⟨a1, c1, rfl, _⟩ := IsD.len d1
  obtain ⟨a4, c4, rfl, hn4, _⟩ := IsD.parts (c := 12) (n := p.p.length) d4
  obtain ⟨a5, c5, rfl, _⟩ := IsD.len d5
  obtain ⟨a6, c6, rfl, _⟩ := IsD.len d6
  have O1 : Hid (IsD w (.slice a1 p.st.r.length c1) (intsD p.st.r)) := d1
  have O4 : Hid (IsD w (.slice a4 p.p.length c4) (pastsD p.p)) := d4
  have O5 : Hid (IsD w (.slice a5 p.t.length c5) (evsD p.t)) := d5
  have O6 : Hid (IsD w (.slice a6 p.a.length c6) (intsD p.a)) := d6
  have hp9 : p.p.length ≤ 1048577 := by
    have e3 := pastsD_wt p.p
    unfold Pa.wt at hw
    omega
  obtain ⟨W0, hW0⟩ : ∃ W0, ((w.alloc (.cells #[.int .i64 p.n, .slice a1 p.st.r.length c1, .int .i64 p.st.q, .int .i64 p.st.d, .slice a4 p.p.length c4, .slice a5 p.t.length c5, .slice a6 p.a.length c6] 36)).alloc (.cells #[.int .i64 e.t, .int .i64 e.s, .int .i64 e.q, .int .i64 e.d, .int .i64 e.k, .int .i64 e.v, .int .i64 e.g] 40)).alloc (.cells #[.int .i64 0, .slice none 0 0, .int .i64 0, .int .i64 0, .slice none 0 0, .slice none 0 0, .slice none 0 0] 36) = W0 := ⟨_, rfl⟩
  have hz0 : W0.heap.size = w.heap.size + 1 + 1 + 1 := by rw [← hW0]; simp
  have hb0 : Below w.heap.size w W0 := hW0 ▸ (((Below.refl _ w).alloc (Nat.le_refl _) _).alloc (by simp) _).alloc (by simp; omega) _
  have HB0 : Hid (Below w.heap.size w W0) := hb0
  have BX : Hid (Bk W0 w.heap.size 36 #[.int .i64 p.n, .slice a1 p.st.r.length c1, .int .i64 p.st.q, .int .i64 p.st.d, .slice a4 p.p.length c4, .slice a5 p.t.length c5, .slice a6 p.a.length c6]) := hW0 ▸ ((Bk.new w _ _).alloc _).alloc _
  have BE : Hid (Bk W0 (w.heap.size + 1) 40 #[.int .i64 e.t, .int .i64 e.s, .int .i64 e.q, .int .i64 e.d, .int .i64 e.k, .int .i64 e.v, .int .i64 e.g]) := hW0 ▸ (Bk.newAt (by simp) _ _).alloc _
  have BZ : Hid (Bk W0 (w.heap.size + 1 + 1) 36 #[.int .i64 0, .slice none 0 0, .int .i64 0, .int .i64 0, .slice none 0 0, .slice none 0 0, .slice none 0 0]) := hW0 ▸ Bk.newAt (by simp) _ _
  have hz0' : W0.heap.size ≤ w.heap.size + 1 + 1 + 1 ∧ w.heap.size + 1 + 1 + 1 ≤ W0.heap.size := by omega
  clear hb0 d1 d4 d5 d6 hw hz0
  have x0 := BX.out.cell (i := 0) rfl
  have x1 := BX.out.cell (i := 1) rfl
  have x2 := BX.out.cell (i := 2) rfl
  have x3 := BX.out.cell (i := 3) rfl
  have x4 := BX.out.cell (i := 4) rfl
  have x5 := BX.out.cell (i := 5) rfl
  have x6 := BX.out.cell (i := 6) rfl
  go_enter Try.func9, Try.ntmps9
  go_wp2_with fail
  clear hW0 x0 x1 x2 x3 x4 x5 x6
  refine (iPartOk_is _ p _ HWT.out (HI.out.under HB0.out)).mono ?_
  rintro r w1 ⟨rfl, hb⟩
  have HB1 : Hid (Below w.heap.size w w1) := HB0.out.trans (hb.mono HB0.out.size)
  have hs1 : W0.heap.size ≤ w1.heap.size := hb.size
  have X1 : Hid (Bk w1 w.heap.size 36 #[.int .i64 p.n, .slice a1 p.st.r.length c1, .int .i64 p.st.q, .int .i64 p.st.d, .slice a4 p.p.length c4, .slice a5 p.t.length c5, .slice a6 p.a.length c6]) := BX.out.below hb
  have E1 : Hid (Bk w1 (w.heap.size + 1) 40 #[.int .i64 e.t, .int .i64 e.s, .int .i64 e.q, .int .i64 e.d, .int .i64 e.k, .int .i64 e.v, .int .i64 e.g]) := BE.out.below hb
  have Z1 : Hid (Bk w1 (w.heap.size + 1 + 1) 36 #[.int .i64 0, .slice none 0 0, .int .i64 0, .int .i64 0, .slice none 0 0, .slice none 0 0, .slice none 0 0]) := BZ.out.below hb
  clear hb BX BE BZ
  cases hok : p.ok
  case false =>
    have HOK : Hid (p.ok = false) := hok
    have ZN := Z1
    have BN := HB1
    clear hok
    have z0 := ZN.out.cell (i := 0) rfl
    have z1 := ZN.out.cell (i := 1) rfl
    have z2 := ZN.out.cell (i := 2) rfl
    have z3 := ZN.out.cell (i := 3) rfl
    have z4 := ZN.out.cell (i := 4) rfl
    have z5 := ZN.out.cell (i := 5) rfl
    have z6 := ZN.out.cell (i := 6) rfl
    have zf := ZN.out.free
    obtain ⟨X5, hX5⟩ : ∃ X5, put7s w1 (w.heap.size + 1 + 1) (.int .i64 0) (.slice none 0 0) (.int .i64 0) (.int .i64 0) (.slice none 0 0) (.slice none 0 0) (.slice none 0 0) = X5 := ⟨_, rfl⟩
    have hP := ZN.out.put7s (.int .i64 0) (.slice none 0 0) (.int .i64 0) (.int .i64 0) (.slice none 0 0) (.slice none 0 0) (.slice none 0 0)
    have ht := put7s_turns w1 (w.heap.size + 1 + 1) (.int .i64 0) (.slice none 0 0) (.int .i64 0) (.int .i64 0) (.slice none 0 0) (.slice none 0 0) (.slice none 0 0)
    rw [hX5] at hP ht
    unfold put7s at hX5
    have HX5 : Hid _ := hX5
    have HP5 : Hid (Bk X5 (w.heap.size + 1 + 1) 36 #[.int .i64 0, .slice none 0 0, .int .i64 0, .int .i64 0, .slice none 0 0, .slice none 0 0, .slice none 0 0]) := hP
    have HT5 : Hid (Turns (fun b => b = (w.heap.size + 1 + 1)) w1 X5) := ht
    clear hX5 hP ht
    go_wp2
    try rw [HX5.out]
    have t0 := HP5.out.cell (i := 0) rfl
    have t1 := HP5.out.cell (i := 1) rfl
    have t2 := HP5.out.cell (i := 2) rfl
    have t3 := HP5.out.cell (i := 3) rfl
    have t4 := HP5.out.cell (i := 4) rfl
    have t5 := HP5.out.cell (i := 5) rfl
    have t6 := HP5.out.cell (i := 6) rfl
    refine bodyPost_ret (v := .tuple #[.agg #[.int .i64 0, .slice none 0 0, .int .i64 0, .int .i64 0, .slice none 0 0, .slice none 0 0, .slice none 0 0], .slice none 0 0]) (by simp [results, Try.results9, go_sem, t0, t1, t2, t3, t4, t5, t6]) rfl ?_
    have hA : trimA p e = Pa.none ∧ trimB p e = [] := by unfold trimA trimB; rw [HOK.out]; exact ⟨rfl, rfl⟩
    rw [hA.1, hA.2]
    exact ⟨_, .slice none 0 0, fun _ => False, fun _ => False, rfl, none_partF _ _, .nil _ _ _ _ _ (Nat.zero_le _), fun _ h => h.elim, fun _ h => h.elim, BN.out.trans (HT5.out.to_below (fun b e => by omega) BN.out.size)⟩
  have HOK : Hid (p.ok = true) := hok
  clear hok
  have e0 := E1.out.cell (i := 0) rfl
  have e1 := E1.out.cell (i := 1) rfl
  have e2 := E1.out.cell (i := 2) rfl
  have e3 := E1.out.cell (i := 3) rfl
  have e4 := E1.out.cell (i := 4) rfl
  have e5 := E1.out.cell (i := 5) rfl
  have e6 := E1.out.cell (i := 6) rfl
  go_wp2_with fail
  clear e0 e1 e2 e3 e4 e5 e6
  refine (iOk_ev e e.ok rfl _).mono ?_
  rintro r w2 ⟨rfl, hb⟩
  have HB2 : Hid (Below w.heap.size w w2) := HB1.out.trans (hb.mono HB1.out.size)
  have hs2 : w1.heap.size ≤ w2.heap.size := hb.size
  have X2 : Hid (Bk w2 w.heap.size 36 #[.int .i64 p.n, .slice a1 p.st.r.length c1, .int .i64 p.st.q, .int .i64 p.st.d, .slice a4 p.p.length c4, .slice a5 p.t.length c5, .slice a6 p.a.length c6]) := X1.out.below hb
  have E2 : Hid (Bk w2 (w.heap.size + 1) 40 #[.int .i64 e.t, .int .i64 e.s, .int .i64 e.q, .int .i64 e.d, .int .i64 e.k, .int .i64 e.v, .int .i64 e.g]) := E1.out.below hb
  have Z2 : Hid (Bk w2 (w.heap.size + 1 + 1) 36 #[.int .i64 0, .slice none 0 0, .int .i64 0, .int .i64 0, .slice none 0 0, .slice none 0 0, .slice none 0 0]) := Z1.out.below hb
  clear hb X1 E1 Z1
  cases hev : e.ok
  case false =>
    have HEV : Hid (e.ok = false) := hev
    have ZN := Z2
    have BN := HB2
    clear hev
    have z0 := ZN.out.cell (i := 0) rfl
    have z1 := ZN.out.cell (i := 1) rfl
    have z2 := ZN.out.cell (i := 2) rfl
    have z3 := ZN.out.cell (i := 3) rfl
    have z4 := ZN.out.cell (i := 4) rfl
    have z5 := ZN.out.cell (i := 5) rfl
    have z6 := ZN.out.cell (i := 6) rfl
    have zf := ZN.out.free
    obtain ⟨X5, hX5⟩ : ∃ X5, put7s w2 (w.heap.size + 1 + 1) (.int .i64 0) (.slice none 0 0) (.int .i64 0) (.int .i64 0) (.slice none 0 0) (.slice none 0 0) (.slice none 0 0) = X5 := ⟨_, rfl⟩
    have hP := ZN.out.put7s (.int .i64 0) (.slice none 0 0) (.int .i64 0) (.int .i64 0) (.slice none 0 0) (.slice none 0 0) (.slice none 0 0)
    have ht := put7s_turns w2 (w.heap.size + 1 + 1) (.int .i64 0) (.slice none 0 0) (.int .i64 0) (.int .i64 0) (.slice none 0 0) (.slice none 0 0) (.slice none 0 0)
    rw [hX5] at hP ht
    unfold put7s at hX5
    have HX5 : Hid _ := hX5
    have HP5 : Hid (Bk X5 (w.heap.size + 1 + 1) 36 #[.int .i64 0, .slice none 0 0, .int .i64 0, .int .i64 0, .slice none 0 0, .slice none 0 0, .slice none 0 0]) := hP
    have HT5 : Hid (Turns (fun b => b = (w.heap.size + 1 + 1)) w2 X5) := ht
    clear hX5 hP ht
    go_wp2
    try rw [HX5.out]
    have t0 := HP5.out.cell (i := 0) rfl
    have t1 := HP5.out.cell (i := 1) rfl
    have t2 := HP5.out.cell (i := 2) rfl
    have t3 := HP5.out.cell (i := 3) rfl
    have t4 := HP5.out.cell (i := 4) rfl
    have t5 := HP5.out.cell (i := 5) rfl
    have t6 := HP5.out.cell (i := 6) rfl
    refine bodyPost_ret (v := .tuple #[.agg #[.int .i64 0, .slice none 0 0, .int .i64 0, .int .i64 0, .slice none 0 0, .slice none 0 0, .slice none 0 0], .slice none 0 0]) (by simp [results, Try.results9, go_sem, t0, t1, t2, t3, t4, t5, t6]) rfl ?_
    have hA : trimA p e = Pa.none ∧ trimB p e = [] := by unfold trimA trimB; rw [HOK.out, HEV.out]; exact ⟨rfl, rfl⟩
    rw [hA.1, hA.2]
    exact ⟨_, .slice none 0 0, fun _ => False, fun _ => False, rfl, none_partF _ _, .nil _ _ _ _ _ (Nat.zero_le _), fun _ h => h.elim, fun _ h => h.elim, BN.out.trans (HT5.out.to_below (fun b e => by omega) BN.out.size)⟩
  have HEV : Hid (e.ok = true) := hev
  clear hev
  have x0 := X2.out.cell (i := 0) rfl
  have x1 := X2.out.cell (i := 1) rfl
  have x2 := X2.out.cell (i := 2) rfl
  have x3 := X2.out.cell (i := 3) rfl
  have x4 := X2.out.cell (i := 4) rfl
  have x5 := X2.out.cell (i := 5) rfl
  have x6 := X2.out.cell (i := 6) rfl
  have e0 := E2.out.cell (i := 0) rfl
  have e1 := E2.out.cell (i := 1) rfl
  have e2 := E2.out.cell (i := 2) rfl
  have e3 := E2.out.cell (i := 3) rfl
  have e4 := E2.out.cell (i := 4) rfl
  have e5 := E2.out.cell (i := 5) rfl
  have e6 := E2.out.cell (i := 6) rfl
  go_wp2_with fail
  clear e0 x0 e1 x1 e2 x2 e3 x3 e4 x4 e5 x5 e6 x6
  refine (searchPast_any _ p.p e _ hp9 (O4.out.under HB2.out)).mono ?_
  rintro r w3 ⟨⟨k, f, rfl, q1, q2, q3⟩, hb⟩
  have HC : Hid (CutAt p.p e k) := found_cut HOK.out HEV.out q1 q2 q3
  have hk : k ≤ p.p.length := q1
  have hki : (k : Int) ≤ (p.p.length : Int) := by omega
  have hkc : (k : Int) ≤ (c4 : Int) := by omega
  have HB3 : Hid (Below w.heap.size w w3) := HB2.out.trans (hb.mono HB2.out.size)
  have hs3 : w2.heap.size ≤ w3.heap.size := hb.size
  have X3 : Hid (Bk w3 w.heap.size 36 #[.int .i64 p.n, .slice a1 p.st.r.length c1, .int .i64 p.st.q, .int .i64 p.st.d, .slice a4 p.p.length c4, .slice a5 p.t.length c5, .slice a6 p.a.length c6]) := X2.out.below hb
  have Z3 : Hid (Bk w3 (w.heap.size + 1 + 1) 36 #[.int .i64 0, .slice none 0 0, .int .i64 0, .int .i64 0, .slice none 0 0, .slice none 0 0, .slice none 0 0]) := Z2.out.below hb
  clear q1 q2 q3 hb X2 E2 Z2
  obtain ⟨V, hV⟩ : ∃ V, sliced a4 k p.p.length c4 12 = V := ⟨_, rfl⟩
  have hVD : IsD w V (pastsD (p.p.drop k)) := hV ▸ pasts_drop O4.out hk
  have hsl : ∀ w : World, (Instr.sliceAt 33 (.slice a4 p.p.length c4) (some (.int .i64 (k : Int))) none none).run Try.prog w = .ok V w := fun w => hV ▸ run_cutFrom _ _ _ _ hk w
  obtain ⟨U, hU⟩ : ∃ U, sliced a4 0 k c4 12 = U := ⟨_, rfl⟩
  have hUD : IsD w U (pastsD (p.p.take k)) := hU ▸ pasts_take O4.out hk
  have hsl2 : ∀ w : World, (Instr.sliceAt 33 (.slice a4 p.p.length c4) none (some (.int .i64 (k : Int))) none).run Try.prog w = .ok U w := fun w => hU ▸ run_cutTo _ _ _ _ (by omega) w
  obtain ⟨av, cv, rfl, _⟩ := IsD.len hVD
  obtain ⟨au, cu, rfl, _⟩ := IsD.len hUD
  obtain ⟨m, hm⟩ : ∃ m, (p.p.drop k).length = m := ⟨_, rfl⟩
  obtain ⟨m2, hm2⟩ : ∃ m, (p.p.take k).length = m := ⟨_, rfl⟩
  rw [hm] at hsl hVD
  rw [hm2] at hsl2 hUD
  have HVD : Hid (IsD w (.slice av m cv) (pastsD (p.p.drop k))) := hVD
  have HUD : Hid (IsD w (.slice au m2 cu) (pastsD (p.p.take k))) := hUD
  clear hV hU hVD hUD hm hm2
  have x0 := X3.out.cell (i := 0) rfl
  have x1 := X3.out.cell (i := 1) rfl
  have x2 := X3.out.cell (i := 2) rfl
  have x3 := X3.out.cell (i := 3) rfl
  have x4 := X3.out.cell (i := 4) rfl
  have x5 := X3.out.cell (i := 5) rfl
  have x6 := X3.out.cell (i := 6) rfl
  go_wp2_with fail
  clear x0 x1 x2 x3 x4 x5 x6
  refine (copyPasts_any _ (p.p.take k) _ (by have := take_wt p.p hk; have := HWT.out; unfold Pa.wt at this; omega) (HUD.out.under HB3.out)).mono ?_
  rintro r w4 ⟨y2, rfl, hb, hO⟩
  have HO4 : Hid (OwnD w4 (fun b => w3.heap.size ≤ b ∧ b < w4.heap.size) y2 (pastsD (p.p.take k))) := hO
  have HB4 : Hid (Below w.heap.size w w4) := HB3.out.trans (hb.mono HB3.out.size)
  have hs4 : w3.heap.size ≤ w4.heap.size := hb.size
  have X4 : Hid (Bk w4 w.heap.size 36 #[.int .i64 p.n, .slice a1 p.st.r.length c1, .int .i64 p.st.q, .int .i64 p.st.d, .slice a4 p.p.length c4, .slice a5 p.t.length c5, .slice a6 p.a.length c6]) := X3.out.below hb
  have Z4 : Hid (Bk w4 (w.heap.size + 1 + 1) 36 #[.int .i64 0, .slice none 0 0, .int .i64 0, .int .i64 0, .slice none 0 0, .slice none 0 0, .slice none 0 0]) := Z3.out.below hb
  obtain ⟨a2', c2', rfl, _⟩ := OwnD.parts (c := 12) (n := (p.p.take k).length) hO
  obtain ⟨m3, hm3⟩ : ∃ m, (p.p.take k).length = m := ⟨_, rfl⟩
  rw [hm3] at HO4 ⊢
  clear hm3 hb hO X3 Z3
  obtain ⟨W5, hW5⟩ : ∃ V, w4.setCell ⟨w.heap.size, 4, none⟩ (.slice av m cv) = V := ⟨_, rfl⟩
  have ht5 := put1_turns w4 w.heap.size 4 (.slice av m cv)
  have hp5 := X4.out.put 4 (.slice av m cv)
  rw [hW5] at ht5 hp5
  have X5 : Hid (Bk W5 w.heap.size 36 #[.int .i64 p.n, .slice a1 p.st.r.length c1, .int .i64 p.st.q, .int .i64 p.st.d, .slice av m cv, .slice a5 p.t.length c5, .slice a6 p.a.length c6]) := hp5
  have Z5 : Hid (Bk W5 (w.heap.size + 1 + 1) 36 #[.int .i64 0, .slice none 0 0, .int .i64 0, .int .i64 0, .slice none 0 0, .slice none 0 0, .slice none 0 0]) := Z4.out.turns ht5 (by omega)
  have T5 : Hid (Turns (fun b => b = w.heap.size) w4 W5) := ht5
  have HB5 : Hid (Below w.heap.size w W5) := HB4.out.trans (ht5.to_below (fun b e => by omega) HB4.out.size)
  have hs5 : w4.heap.size ≤ W5.heap.size := ht5.size
  clear ht5 hp5
  have x0 := X4.out.cell (i := 0) rfl
  have x1 := X4.out.cell (i := 1) rfl
  have x2 := X4.out.cell (i := 2) rfl
  have x3 := X4.out.cell (i := 3) rfl
  have x4 := X4.out.cell (i := 4) rfl
  have x5 := X4.out.cell (i := 5) rfl
  have x6 := X4.out.cell (i := 6) rfl
  have xf := X4.out.free
  have y0 := X5.out.cell (i := 0) rfl
  have y1 := X5.out.cell (i := 1) rfl
  have y2 := X5.out.cell (i := 2) rfl
  have y3 := X5.out.cell (i := 3) rfl
  have y4 := X5.out.cell (i := 4) rfl
  have y5 := X5.out.cell (i := 5) rfl
  have y6 := X5.out.cell (i := 6) rfl
  go_wp2_with fail
  clear hW5 xf x0 y0 x1 y1 x2 y2 x3 y3 x4 y4 x5 y5 x6 y6
  refine (copyPart_any _ (p.cut k) _ (by have := Pa.cut_wt p hk; have := HWT.out; omega) ⟨_, _, _, _, rfl, O1.out.under HB5.out, HVD.out.under HB5.out, O5.out.under HB5.out, O6.out.under HB5.out⟩).mono ?_
  rintro r w6 ⟨y, rfl, hb, hF⟩
  have HF6 : Hid (PartF (fun b => W5.heap.size ≤ b ∧ b < w6.heap.size) w6 y (p.cut k)) := hF
  have HO6 : Hid (OwnD w6 (fun b => w3.heap.size ≤ b ∧ b < w4.heap.size) (.slice a2' m3 c2') (pastsD (p.p.take k))) := (HO4.out.turns T5.out (fun b hb e => by omega)).under hb
  have HB6 : Hid (Below w.heap.size w w6) := HB5.out.trans (hb.mono HB5.out.size)
  have hs6 : W5.heap.size ≤ w6.heap.size := hb.size
  have Z6 : Hid (Bk w6 (w.heap.size + 1 + 1) 36 #[.int .i64 0, .slice none 0 0, .int .i64 0, .int .i64 0, .slice none 0 0, .slice none 0 0, .slice none 0 0]) := Z5.out.below hb
  obtain ⟨r1, s1, r4, s4, r5, s5, r6, s6, rfl⟩ := PartF.form hF
  clear hb hF Z5 X5
  have z0 := Z6.out.cell (i := 0) rfl
  have z1 := Z6.out.cell (i := 1) rfl
  have z2 := Z6.out.cell (i := 2) rfl
  have z3 := Z6.out.cell (i := 3) rfl
  have z4 := Z6.out.cell (i := 4) rfl
  have z5 := Z6.out.cell (i := 5) rfl
  have z6 := Z6.out.cell (i := 6) rfl
  have zf := Z6.out.free
  obtain ⟨X7, hX7⟩ : ∃ X5, put7s w6 (w.heap.size + 1 + 1) (.int .i64 (p.cut k).n) (.slice r1 (p.cut k).st.r.length s1) (.int .i64 (p.cut k).st.q) (.int .i64 (p.cut k).st.d) (.slice r4 (p.cut k).p.length s4) (.slice r5 (p.cut k).t.length s5) (.slice r6 (p.cut k).a.length s6) = X5 := ⟨_, rfl⟩
  have hP := Z6.out.put7s (.int .i64 (p.cut k).n) (.slice r1 (p.cut k).st.r.length s1) (.int .i64 (p.cut k).st.q) (.int .i64 (p.cut k).st.d) (.slice r4 (p.cut k).p.length s4) (.slice r5 (p.cut k).t.length s5) (.slice r6 (p.cut k).a.length s6)
  have ht := put7s_turns w6 (w.heap.size + 1 + 1) (.int .i64 (p.cut k).n) (.slice r1 (p.cut k).st.r.length s1) (.int .i64 (p.cut k).st.q) (.int .i64 (p.cut k).st.d) (.slice r4 (p.cut k).p.length s4) (.slice r5 (p.cut k).t.length s5) (.slice r6 (p.cut k).a.length s6)
  rw [hX7] at hP ht
  unfold put7s at hX7
  have HX7 : Hid _ := hX7
  have HP7 : Hid (Bk X7 (w.heap.size + 1 + 1) 36 #[.int .i64 (p.cut k).n, .slice r1 (p.cut k).st.r.length s1, .int .i64 (p.cut k).st.q, .int .i64 (p.cut k).st.d, .slice r4 (p.cut k).p.length s4, .slice r5 (p.cut k).t.length s5, .slice r6 (p.cut k).a.length s6]) := hP
  have HT7 : Hid (Turns (fun b => b = (w.heap.size + 1 + 1)) w6 X7) := ht
  clear hX7 hP ht
  go_wp2
  try rw [HX7.out]
  have t0 := HP7.out.cell (i := 0) rfl
  have t1 := HP7.out.cell (i := 1) rfl
  have t2 := HP7.out.cell (i := 2) rfl
  have t3 := HP7.out.cell (i := 3) rfl
  have t4 := HP7.out.cell (i := 4) rfl
  have t5 := HP7.out.cell (i := 5) rfl
  have t6 := HP7.out.cell (i := 6) rfl
  refine bodyPost_ret (v := .tuple #[.agg #[.int .i64 (p.cut k).n, .slice r1 (p.cut k).st.r.length s1, .int .i64 (p.cut k).st.q, .int .i64 (p.cut k).st.d, .slice r4 (p.cut k).p.length s4, .slice r5 (p.cut k).t.length s5, .slice r6 (p.cut k).a.length s6], .slice a2' m3 c2']) (by simp [results, Try.results9, go_sem, t0, t1, t2, t3, t4, t5, t6]) rfl ?_
  have hkk := HC.out.is
  have hA : trimA p e = p.cut k ∧ trimB p e = p.p.take k := by unfold trimA trimB; rw [HOK.out, HEV.out, ← hkk]; exact ⟨rfl, rfl⟩
  rw [hA.1, hA.2]
  have hsx := HT7.out.size
  exact ⟨_, _, _, _, rfl, HF6.out.turns HT7.out (fun b hb e => by omega), HO6.out.turns HT7.out (fun b hb e => by omega), fun b hb => ⟨by omega, fun hg => by omega⟩, fun b hb => by omega, HB6.out.trans (HT7.out.to_below (fun b e => by omega) HB6.out.size)⟩
end Go.Proofs.Ytdcnimdhfhbdmaa

/- Both Trim, as the law wants them. -/
namespace Go.Proofs.Ytdcnimdhfhbdmaa
open Go.RowKit
theorem TrimAns.a2 {w w' : World} {r : Ending} {a : Pa} {l : List Ps} (h : TrimAns w w' r a l) : ∃ y1 y2, r = .returned (.tuple #[y1, y2]) ∧ Below w.heap.size w w' ∧ A2 (fun k => w.heap.size ≤ k ∧ k < w'.heap.size) w' y1 y2 a (pastsD l) := by
  obtain ⟨y1, y2, F, G, rfl, h1, h2, h3, h4, hb⟩ := h
  exact ⟨y1, y2, rfl, hb, F, G, h1, h2, h3, h4⟩
theorem none_wt : Pa.none.wt ≤ 1048576 := by
  have e1 : (intsD []).wt = 0 := ints_wt []
  have e2 : (evsD []).wt = 0 := evs_wt []
  have e3 : (pastsD []).wt = 0 := by rw [pastsD_wt]; rfl
  show (intsD []).wt + (pastsD []).wt + (evsD []).wt + (intsD []).wt ≤ 1048576
  rw [e1, e2, e3]; omega
theorem trim_small {p : Pa} {e : Ev} (h : p.wt ≤ 1048576) : (trimA p e).wt ≤ 1048576 ∧ (pastsD (trimB p e)).wt ≤ 1048576 := by
  unfold trimA trimB
  have hk := (cutK_at p.p e).le
  split
  · have h1 := Pa.cut_wt p hk
    have h2 := take_wt p.p hk
    have h3 : (pastsD p.p).wt ≤ p.wt := by unfold Pa.wt; omega
    exact ⟨by omega, by omega⟩
  · exact ⟨none_wt, by rw [show (pastsD []).wt = 0 from by rw [pastsD_wt]; rfl]; omega⟩
end Go.Proofs.Ytdcnimdhfhbdmaa

/- The specification's Back. -/
namespace Go.Proofs.Ytdcnimdhfhbdmaa
open Go.RowKit
def AnsE (w w' : World) (r : Ending) (a : Pa) (l : List Ev) : Prop := ∃ y1 y2, r = .returned (.tuple #[y1, y2]) ∧ Below w.heap.size w w' ∧ A2 (fun k => w.heap.size ≤ k ∧ k < w'.heap.size) w' y1 y2 a (evsD l)
theorem nilE (w : World) : OwnD w (fun _ => False) (.slice none 0 0) (evsD []) := .nil _ _ _ _ _ (Nat.zero_le _)
theorem ownE {B : Nat} {w : World} {y : Value} {l : List Ev} (h : w.ownsRow B 40 7 y l.length (cellsL l)) : OwnD w (fun k => B ≤ k ∧ k < w.heap.size) y (evsD l) := (RowF.of_owns (cellsL_length l) h).own
theorem back_small {p : Pa} {e : Ev} (h : p.wt ≤ 1048576) : (backA p e).wt ≤ 1048576 ∧ (evsD (backB p e)).wt ≤ 1048576 := by
  have e0 : (evsD []).wt = 0 := evs_wt []
  unfold backA backB
  split
  · next hc =>
    have hg : GoodP p := Pa.ok_iff.1 (by revert hc; cases p.ok <;> simp)
    have hk := (cutK_at p.p e).le
    split
    · refine ⟨back_wt hg h hk, ?_⟩
      rw [evs_wt]
      have := undo_len (p := p) hk
      unfold Pa.wt at h
      omega
    · exact ⟨h, by rw [e0]; omega⟩
  · exact ⟨none_wt, by rw [e0]; omega⟩
set_option maxRecDepth 100000 in
set_option maxHeartbeats 16000000 in
theorem sBack (x : Value) (p : Pa) (e : Ev) (w : World) (hw : p.wt ≤ 1048576) (h : IsPart w x p) :
    Calls Try.prog 16 #[x, .agg #[.int .i64 e.t, .int .i64 e.s, .int .i64 e.q, .int .i64 e.d, .int .i64 e.k, .int .i64 e.v, .int .i64 e.g]] w fun r w' => AnsE w w' r (backA p e) (backB p e) := by
  have HI : Hid (IsPart w x p) := h
  have HWT : Hid (p.wt ≤ 1048576) := hw
  obtain ⟨u1, u4, u5, u6, rfl, d1, d4, d5, d6⟩ := h
  obtain ⟨W0, hW0⟩ : ∃ W0, ((w.alloc (.cells #[.int .i64 p.n, u1, .int .i64 p.st.q, .int .i64 p.st.d, u4, u5, u6] 36)).alloc (.cells #[.int .i64 e.t, .int .i64 e.s, .int .i64 e.q, .int .i64 e.d, .int .i64 e.k, .int .i64 e.v, .int .i64 e.g] 40)).alloc (.cells #[.int .i64 0, .slice none 0 0, .int .i64 0, .int .i64 0, .slice none 0 0, .slice none 0 0, .slice none 0 0] 36) = W0 := ⟨_, rfl⟩
  have hz0 : W0.heap.size = w.heap.size + 1 + 1 + 1 := by rw [← hW0]; simp
  have hb0 : Below w.heap.size w W0 := hW0 ▸ (((Below.refl _ w).alloc (Nat.le_refl _) _).alloc (by simp) _).alloc (by simp; omega) _
  have HB0 : Hid (Below w.heap.size w W0) := hb0
  have BX : Hid (Bk W0 w.heap.size 36 #[.int .i64 p.n, u1, .int .i64 p.st.q, .int .i64 p.st.d, u4, u5, u6]) := hW0 ▸ ((Bk.new w _ _).alloc _).alloc _
  have BE : Hid (Bk W0 (w.heap.size + 1) 40 #[.int .i64 e.t, .int .i64 e.s, .int .i64 e.q, .int .i64 e.d, .int .i64 e.k, .int .i64 e.v, .int .i64 e.g]) := hW0 ▸ (Bk.newAt (by simp) _ _).alloc _
  have BZ : Hid (Bk W0 (w.heap.size + 1 + 1) 36 #[.int .i64 0, .slice none 0 0, .int .i64 0, .int .i64 0, .slice none 0 0, .slice none 0 0, .slice none 0 0]) := hW0 ▸ Bk.newAt (by simp) _ _
  have hz0' : W0.heap.size ≤ w.heap.size + 1 + 1 + 1 ∧ w.heap.size + 1 + 1 + 1 ≤ W0.heap.size := by omega
  clear hb0 d1 d4 d5 d6 hw hz0
  have x0 := BX.out.cell (i := 0) rfl
  have x1 := BX.out.cell (i := 1) rfl
  have x2 := BX.out.cell (i := 2) rfl
  have x3 := BX.out.cell (i := 3) rfl
  have x4 := BX.out.cell (i := 4) rfl
  have x5 := BX.out.cell (i := 5) rfl
  have x6 := BX.out.cell (i := 6) rfl
  go_enter Try.func16, Try.ntmps16
  go_wp2_with fail
  clear hW0 x0 x1 x2 x3 x4 x5 x6
  refine (sPartOk_is _ p _ HWT.out (HI.out.under HB0.out)).mono ?_
  rintro r w1 ⟨rfl, hb⟩
  have HB1 : Hid (Below w.heap.size w w1) := HB0.out.trans (hb.mono HB0.out.size)
  have hs1 : W0.heap.size ≤ w1.heap.size := hb.size
  have X1 : Hid (Bk w1 w.heap.size 36 #[.int .i64 p.n, u1, .int .i64 p.st.q, .int .i64 p.st.d, u4, u5, u6]) := BX.out.below hb
  have E1 : Hid (Bk w1 (w.heap.size + 1) 40 #[.int .i64 e.t, .int .i64 e.s, .int .i64 e.q, .int .i64 e.d, .int .i64 e.k, .int .i64 e.v, .int .i64 e.g]) := BE.out.below hb
  have Z1 : Hid (Bk w1 (w.heap.size + 1 + 1) 36 #[.int .i64 0, .slice none 0 0, .int .i64 0, .int .i64 0, .slice none 0 0, .slice none 0 0, .slice none 0 0]) := BZ.out.below hb
  clear hb BX BE BZ
  cases hok : p.ok
  case false =>
    have HOK : Hid (p.ok = false) := hok
    have ZN := Z1
    have BN := HB1
    clear hok
    have z0 := ZN.out.cell (i := 0) rfl
    have z1 := ZN.out.cell (i := 1) rfl
    have z2 := ZN.out.cell (i := 2) rfl
    have z3 := ZN.out.cell (i := 3) rfl
    have z4 := ZN.out.cell (i := 4) rfl
    have z5 := ZN.out.cell (i := 5) rfl
    have z6 := ZN.out.cell (i := 6) rfl
    have zf := ZN.out.free
    obtain ⟨X5, hX5⟩ : ∃ X5, put7s w1 (w.heap.size + 1 + 1) (.int .i64 0) (.slice none 0 0) (.int .i64 0) (.int .i64 0) (.slice none 0 0) (.slice none 0 0) (.slice none 0 0) = X5 := ⟨_, rfl⟩
    have hP := ZN.out.put7s (.int .i64 0) (.slice none 0 0) (.int .i64 0) (.int .i64 0) (.slice none 0 0) (.slice none 0 0) (.slice none 0 0)
    have ht := put7s_turns w1 (w.heap.size + 1 + 1) (.int .i64 0) (.slice none 0 0) (.int .i64 0) (.int .i64 0) (.slice none 0 0) (.slice none 0 0) (.slice none 0 0)
    rw [hX5] at hP ht
    unfold put7s at hX5
    have HX5 : Hid _ := hX5
    have HP5 : Hid (Bk X5 (w.heap.size + 1 + 1) 36 #[.int .i64 0, .slice none 0 0, .int .i64 0, .int .i64 0, .slice none 0 0, .slice none 0 0, .slice none 0 0]) := hP
    have HT5 : Hid (Turns (fun b => b = (w.heap.size + 1 + 1)) w1 X5) := ht
    clear hX5 hP ht
    go_wp2
    try rw [HX5.out]
    have t0 := HP5.out.cell (i := 0) rfl
    have t1 := HP5.out.cell (i := 1) rfl
    have t2 := HP5.out.cell (i := 2) rfl
    have t3 := HP5.out.cell (i := 3) rfl
    have t4 := HP5.out.cell (i := 4) rfl
    have t5 := HP5.out.cell (i := 5) rfl
    have t6 := HP5.out.cell (i := 6) rfl
    refine bodyPost_ret (v := .tuple #[.agg #[.int .i64 0, .slice none 0 0, .int .i64 0, .int .i64 0, .slice none 0 0, .slice none 0 0, .slice none 0 0], .slice none 0 0]) (by simp [results, Try.results16, go_sem, t0, t1, t2, t3, t4, t5, t6]) rfl ?_
    have hA : backA p e = Pa.none ∧ backB p e = [] := by unfold backA backB; rw [HOK.out]; exact ⟨rfl, rfl⟩
    rw [hA.1, hA.2]
    exact ⟨_, _, rfl, BN.out.trans (HT5.out.to_below (fun b e => by omega) BN.out.size), fun _ => False, fun _ => False, none_partF _ _, nilE _, fun _ h => h.elim, fun _ h => h.elim⟩
  have HOK : Hid (p.ok = true) := hok
  clear hok
  have e0 := E1.out.cell (i := 0) rfl
  have e1 := E1.out.cell (i := 1) rfl
  have e2 := E1.out.cell (i := 2) rfl
  have e3 := E1.out.cell (i := 3) rfl
  have e4 := E1.out.cell (i := 4) rfl
  have e5 := E1.out.cell (i := 5) rfl
  have e6 := E1.out.cell (i := 6) rfl
  go_wp2_with fail
  clear e0 e1 e2 e3 e4 e5 e6
  refine (sOk_ev e e.ok rfl _).mono ?_
  rintro r w2 ⟨rfl, hb⟩
  have HB2 : Hid (Below w.heap.size w w2) := HB1.out.trans (hb.mono HB1.out.size)
  have hs2 : w1.heap.size ≤ w2.heap.size := hb.size
  have X2 : Hid (Bk w2 w.heap.size 36 #[.int .i64 p.n, u1, .int .i64 p.st.q, .int .i64 p.st.d, u4, u5, u6]) := X1.out.below hb
  have E2 : Hid (Bk w2 (w.heap.size + 1) 40 #[.int .i64 e.t, .int .i64 e.s, .int .i64 e.q, .int .i64 e.d, .int .i64 e.k, .int .i64 e.v, .int .i64 e.g]) := E1.out.below hb
  have Z2 : Hid (Bk w2 (w.heap.size + 1 + 1) 36 #[.int .i64 0, .slice none 0 0, .int .i64 0, .int .i64 0, .slice none 0 0, .slice none 0 0, .slice none 0 0]) := Z1.out.below hb
  clear hb X1 E1 Z1
  cases hev : e.ok
  case false =>
    have HEV : Hid (e.ok = false) := hev
    have ZN := Z2
    have BN := HB2
    clear hev
    have z0 := ZN.out.cell (i := 0) rfl
    have z1 := ZN.out.cell (i := 1) rfl
    have z2 := ZN.out.cell (i := 2) rfl
    have z3 := ZN.out.cell (i := 3) rfl
    have z4 := ZN.out.cell (i := 4) rfl
    have z5 := ZN.out.cell (i := 5) rfl
    have z6 := ZN.out.cell (i := 6) rfl
    have zf := ZN.out.free
    obtain ⟨X5, hX5⟩ : ∃ X5, put7s w2 (w.heap.size + 1 + 1) (.int .i64 0) (.slice none 0 0) (.int .i64 0) (.int .i64 0) (.slice none 0 0) (.slice none 0 0) (.slice none 0 0) = X5 := ⟨_, rfl⟩
    have hP := ZN.out.put7s (.int .i64 0) (.slice none 0 0) (.int .i64 0) (.int .i64 0) (.slice none 0 0) (.slice none 0 0) (.slice none 0 0)
    have ht := put7s_turns w2 (w.heap.size + 1 + 1) (.int .i64 0) (.slice none 0 0) (.int .i64 0) (.int .i64 0) (.slice none 0 0) (.slice none 0 0) (.slice none 0 0)
    rw [hX5] at hP ht
    unfold put7s at hX5
    have HX5 : Hid _ := hX5
    have HP5 : Hid (Bk X5 (w.heap.size + 1 + 1) 36 #[.int .i64 0, .slice none 0 0, .int .i64 0, .int .i64 0, .slice none 0 0, .slice none 0 0, .slice none 0 0]) := hP
    have HT5 : Hid (Turns (fun b => b = (w.heap.size + 1 + 1)) w2 X5) := ht
    clear hX5 hP ht
    go_wp2
    try rw [HX5.out]
    have t0 := HP5.out.cell (i := 0) rfl
    have t1 := HP5.out.cell (i := 1) rfl
    have t2 := HP5.out.cell (i := 2) rfl
    have t3 := HP5.out.cell (i := 3) rfl
    have t4 := HP5.out.cell (i := 4) rfl
    have t5 := HP5.out.cell (i := 5) rfl
    have t6 := HP5.out.cell (i := 6) rfl
    refine bodyPost_ret (v := .tuple #[.agg #[.int .i64 0, .slice none 0 0, .int .i64 0, .int .i64 0, .slice none 0 0, .slice none 0 0, .slice none 0 0], .slice none 0 0]) (by simp [results, Try.results16, go_sem, t0, t1, t2, t3, t4, t5, t6]) rfl ?_
    have hA : backA p e = Pa.none ∧ backB p e = [] := by unfold backA backB; rw [HOK.out, HEV.out]; exact ⟨rfl, rfl⟩
    rw [hA.1, hA.2]
    exact ⟨_, _, rfl, BN.out.trans (HT5.out.to_below (fun b e => by omega) BN.out.size), fun _ => False, fun _ => False, none_partF _ _, nilE _, fun _ h => h.elim, fun _ h => h.elim⟩
  have HEV : Hid (e.ok = true) := hev
  have HG : Hid (GoodP p) := Pa.ok_iff.1 HOK.out
  clear hev
  have x0 := X2.out.cell (i := 0) rfl
  have x1 := X2.out.cell (i := 1) rfl
  have x2 := X2.out.cell (i := 2) rfl
  have x3 := X2.out.cell (i := 3) rfl
  have x4 := X2.out.cell (i := 4) rfl
  have x5 := X2.out.cell (i := 5) rfl
  have x6 := X2.out.cell (i := 6) rfl
  have e0 := E2.out.cell (i := 0) rfl
  have e1 := E2.out.cell (i := 1) rfl
  have e2 := E2.out.cell (i := 2) rfl
  have e3 := E2.out.cell (i := 3) rfl
  have e4 := E2.out.cell (i := 4) rfl
  have e5 := E2.out.cell (i := 5) rfl
  have e6 := E2.out.cell (i := 6) rfl
  go_wp2_with fail
  clear e0 x0 e1 x1 e2 x2 e3 x3 e4 x4 e5 x5 e6 x6
  refine (l4back_any _ p e _ HWT.out HG.out (HI.out.under HB2.out)).mono ?_
  rintro r w3 ⟨y1, y2, rfl, hp, hd, hb⟩
  have HB3 : Hid (Below w.heap.size w w3) := HB2.out.trans (hb.mono HB2.out.size)
  have hs3 : w2.heap.size ≤ w3.heap.size := hb.size
  have Z3 : Hid (Bk w3 (w.heap.size + 1 + 1) 36 #[.int .i64 0, .slice none 0 0, .int .i64 0, .int .i64 0, .slice none 0 0, .slice none 0 0, .slice none 0 0]) := Z2.out.below hb
  have X3 : Hid (Bk w3 w.heap.size 36 #[.int .i64 p.n, u1, .int .i64 p.st.q, .int .i64 p.st.d, u4, u5, u6]) := X2.out.below hb
  obtain ⟨A, hA0⟩ : ∃ A, (p.back (cutK p.p e)) = A := ⟨_, rfl⟩
  have hAw : A.wt ≤ 1048576 := hA0 ▸ back_wt HG.out HWT.out (cutK_at p.p e).le
  obtain ⟨L, hL0⟩ : ∃ L, undoL p.p (cutK p.p e) = L := ⟨_, rfl⟩
  have hLw : L.length ≤ 1048576 := by (have h1 := undo_len (p := p) (cutK_at p.p e).le; have h2 := HWT.out; unfold Pa.wt at h2; rw [hL0] at h1; omega)
  have HAL : Hid ((p.back (cutK p.p e)) = A ∧ undoL p.p (cutK p.p e) = L) := ⟨hA0, hL0⟩
  rw [hA0] at hp
  rw [hL0] at hd
  clear hA0 hL0
  have HP3 : Hid (IsPart w3 y1 A) := hp
  have HD3 : Hid (IsEvs w3 y2 L) := hd
  have HAW : Hid (A.wt ≤ 1048576) := hAw
  obtain ⟨v1, v4, v5, v6, rfl, j1, j4, j5, j6⟩ := hp
  obtain ⟨a1, c1, rfl, _⟩ := IsD.len j1
  obtain ⟨a4, c4, rfl, _⟩ := IsD.len j4
  obtain ⟨a5, c5, rfl, _⟩ := IsD.len j5
  obtain ⟨a6, c6, rfl, _⟩ := IsD.len j6
  clear j1 j4 j5 j6 hAw
  obtain ⟨a2, c2, rfl, _⟩ := id hd
  clear hd hb X2 E2 Z2
  obtain ⟨W4, hW4⟩ : ∃ V, w3.alloc (.cells #[.int .i64 A.n, .slice a1 A.st.r.length c1, .int .i64 A.st.q, .int .i64 A.st.d, .slice a4 A.p.length c4, .slice a5 A.t.length c5, .slice a6 A.a.length c6] 36) = V := ⟨_, rfl⟩
  have hb4 : Below w3.heap.size w3 W4 := hW4 ▸ (Below.refl _ w3).alloc (Nat.le_refl _) _
  have HB34 : Hid (Below w3.heap.size w3 W4) := hb4
  have Q4 : Hid (Bk W4 w3.heap.size 36 #[.int .i64 A.n, .slice a1 A.st.r.length c1, .int .i64 A.st.q, .int .i64 A.st.d, .slice a4 A.p.length c4, .slice a5 A.t.length c5, .slice a6 A.a.length c6]) := hW4 ▸ Bk.new w3 _ _
  have Z4 : Hid (Bk W4 (w.heap.size + 1 + 1) 36 #[.int .i64 0, .slice none 0 0, .int .i64 0, .int .i64 0, .slice none 0 0, .slice none 0 0, .slice none 0 0]) := Z3.out.below hb4
  have X4 : Hid (Bk W4 w.heap.size 36 #[.int .i64 p.n, u1, .int .i64 p.st.q, .int .i64 p.st.d, u4, u5, u6]) := X3.out.below hb4
  have HB4 : Hid (Below w.heap.size w W4) := HB3.out.trans (hb4.mono HB3.out.size)
  have hs4 : w3.heap.size < W4.heap.size := Q4.out.lt
  clear hb4 Z3 X3
  have q0 := Q4.out.cell (i := 0) rfl
  have q1 := Q4.out.cell (i := 1) rfl
  have q2 := Q4.out.cell (i := 2) rfl
  have q3 := Q4.out.cell (i := 3) rfl
  have q4 := Q4.out.cell (i := 4) rfl
  have q5 := Q4.out.cell (i := 5) rfl
  have q6 := Q4.out.cell (i := 6) rfl
  go_wp2_with fail
  clear hW4 q0 q1 q2 q3 q4 q5 q6
  refine (sPartOk_is _ A _ HAW.out (HP3.out.under HB34.out)).mono ?_
  rintro r w5 ⟨rfl, hb⟩
  have HB45 : Hid (Below w3.heap.size w3 w5) := HB34.out.trans (hb.mono HB34.out.size)
  have HB5 : Hid (Below w.heap.size w w5) := HB4.out.trans (hb.mono HB4.out.size)
  have hs5 : W4.heap.size ≤ w5.heap.size := hb.size
  have Z5 : Hid (Bk w5 (w.heap.size + 1 + 1) 36 #[.int .i64 0, .slice none 0 0, .int .i64 0, .int .i64 0, .slice none 0 0, .slice none 0 0, .slice none 0 0]) := Z4.out.below hb
  have X5' : Hid (Bk w5 w.heap.size 36 #[.int .i64 p.n, u1, .int .i64 p.st.q, .int .i64 p.st.d, u4, u5, u6]) := X4.out.below hb
  have Q5 : Hid (Bk w5 w3.heap.size 36 #[.int .i64 A.n, .slice a1 A.st.r.length c1, .int .i64 A.st.q, .int .i64 A.st.d, .slice a4 A.p.length c4, .slice a5 A.t.length c5, .slice a6 A.a.length c6]) := Q4.out.below hb
  clear hb Z4 X4 Q4
  cases hoa : A.ok
  case false =>
    have HOA : Hid (A.ok = false) := hoa
    clear hoa
    have x0 := X5'.out.cell (i := 0) rfl
    have x1 := X5'.out.cell (i := 1) rfl
    have x2 := X5'.out.cell (i := 2) rfl
    have x3 := X5'.out.cell (i := 3) rfl
    have x4 := X5'.out.cell (i := 4) rfl
    have x5 := X5'.out.cell (i := 5) rfl
    have x6 := X5'.out.cell (i := 6) rfl
    go_wp2_with fail
    clear x0 x1 x2 x3 x4 x5 x6
    refine (l4own_any _ p _ (by have := HWT.out; omega) (HI.out.under HB5.out)).mono ?_
    rintro r w6 ⟨y, rfl, hb, hF⟩
    have HB6 : Hid (Below w.heap.size w w6) := HB5.out.trans (hb.mono HB5.out.size)
    have hs6 : w5.heap.size ≤ w6.heap.size := hb.size
    have Z6 : Hid (Bk w6 (w.heap.size + 1 + 1) 36 #[.int .i64 0, .slice none 0 0, .int .i64 0, .int .i64 0, .slice none 0 0, .slice none 0 0, .slice none 0 0]) := Z5.out.below hb
    have HF6 : Hid (PartF (fun b => w5.heap.size ≤ b ∧ b < w6.heap.size) w6 y p) := hF
    obtain ⟨r1, s1, r4, s4, r5, s5, r6, s6, rfl⟩ := PartF.form hF
    clear hb hF Z5 X5' Q5
    have z0 := Z6.out.cell (i := 0) rfl
    have z1 := Z6.out.cell (i := 1) rfl
    have z2 := Z6.out.cell (i := 2) rfl
    have z3 := Z6.out.cell (i := 3) rfl
    have z4 := Z6.out.cell (i := 4) rfl
    have z5 := Z6.out.cell (i := 5) rfl
    have z6 := Z6.out.cell (i := 6) rfl
    have zf := Z6.out.free
    obtain ⟨X5, hX5⟩ : ∃ X5, put7s w6 (w.heap.size + 1 + 1) (.int .i64 p.n) (.slice r1 p.st.r.length s1) (.int .i64 p.st.q) (.int .i64 p.st.d) (.slice r4 p.p.length s4) (.slice r5 p.t.length s5) (.slice r6 p.a.length s6) = X5 := ⟨_, rfl⟩
    have hP := Z6.out.put7s (.int .i64 p.n) (.slice r1 p.st.r.length s1) (.int .i64 p.st.q) (.int .i64 p.st.d) (.slice r4 p.p.length s4) (.slice r5 p.t.length s5) (.slice r6 p.a.length s6)
    have ht := put7s_turns w6 (w.heap.size + 1 + 1) (.int .i64 p.n) (.slice r1 p.st.r.length s1) (.int .i64 p.st.q) (.int .i64 p.st.d) (.slice r4 p.p.length s4) (.slice r5 p.t.length s5) (.slice r6 p.a.length s6)
    rw [hX5] at hP ht
    unfold put7s at hX5
    have HX5 : Hid _ := hX5
    have HP5 : Hid (Bk X5 (w.heap.size + 1 + 1) 36 #[.int .i64 p.n, .slice r1 p.st.r.length s1, .int .i64 p.st.q, .int .i64 p.st.d, .slice r4 p.p.length s4, .slice r5 p.t.length s5, .slice r6 p.a.length s6]) := hP
    have HT5 : Hid (Turns (fun b => b = (w.heap.size + 1 + 1)) w6 X5) := ht
    clear hX5 hP ht
    go_wp2
    try rw [HX5.out]
    have t0 := HP5.out.cell (i := 0) rfl
    have t1 := HP5.out.cell (i := 1) rfl
    have t2 := HP5.out.cell (i := 2) rfl
    have t3 := HP5.out.cell (i := 3) rfl
    have t4 := HP5.out.cell (i := 4) rfl
    have t5 := HP5.out.cell (i := 5) rfl
    have t6 := HP5.out.cell (i := 6) rfl
    refine bodyPost_ret (v := .tuple #[.agg #[.int .i64 p.n, .slice r1 p.st.r.length s1, .int .i64 p.st.q, .int .i64 p.st.d, .slice r4 p.p.length s4, .slice r5 p.t.length s5, .slice r6 p.a.length s6], .slice none 0 0]) (by simp [results, Try.results16, go_sem, t0, t1, t2, t3, t4, t5, t6]) rfl ?_
    have hA : backA p e = p ∧ backB p e = [] := by unfold backA backB; rw [HOK.out, HEV.out, HAL.out.1, HOA.out]; exact ⟨rfl, rfl⟩
    rw [hA.1, hA.2]
    have hsx := HT5.out.size
    exact ⟨_, _, rfl, HB6.out.trans (HT5.out.to_below (fun b e => by omega) HB6.out.size), _, fun _ => False, HF6.out.turns HT5.out (fun b hb e => by omega), nilE _, fun b hb => ⟨by omega, id⟩, fun b hb => hb.elim⟩
  have HOA : Hid (A.ok = true) := hoa
  clear hoa X5'
  have q0 := Q5.out.cell (i := 0) rfl
  have q1 := Q5.out.cell (i := 1) rfl
  have q2 := Q5.out.cell (i := 2) rfl
  have q3 := Q5.out.cell (i := 3) rfl
  have q4 := Q5.out.cell (i := 4) rfl
  have q5 := Q5.out.cell (i := 5) rfl
  have q6 := Q5.out.cell (i := 6) rfl
  go_wp2_with fail
  clear q0 q1 q2 q3 q4 q5 q6
  refine (l4own_any _ A _ (by have := HAW.out; omega) (HP3.out.under HB45.out)).mono ?_
  rintro r w6 ⟨y, rfl, hb, hF⟩
  have HB6 : Hid (Below w.heap.size w w6) := HB5.out.trans (hb.mono HB5.out.size)
  have hs6 : w5.heap.size ≤ w6.heap.size := hb.size
  have Z6 : Hid (Bk w6 (w.heap.size + 1 + 1) 36 #[.int .i64 0, .slice none 0 0, .int .i64 0, .int .i64 0, .slice none 0 0, .slice none 0 0, .slice none 0 0]) := Z5.out.below hb
  have HF6 : Hid (PartF (fun b => w5.heap.size ≤ b ∧ b < w6.heap.size) w6 y A) := hF
  have HD6 : Hid (IsEvs w6 (.slice a2 L.length c2) L) := (HD3.out.below HB45.out).below hb
  obtain ⟨r1, s1, r4, s4, r5, s5, r6, s6, rfl⟩ := PartF.form hF
  clear hb hF Z5 Q5
  go_wp2_with fail
  refine (l1own_src _ L _ (by omega) (SrcC.ofEvs HD6.out)).mono ?_
  rintro r w7 ⟨y2, rfl, ho, hb⟩
  have HF7 : Hid (PartF (fun b => w5.heap.size ≤ b ∧ b < w6.heap.size) w7 (.agg #[.int .i64 A.n, .slice r1 A.st.r.length s1, .int .i64 A.st.q, .int .i64 A.st.d, .slice r4 A.p.length s4, .slice r5 A.t.length s5, .slice r6 A.a.length s6]) A) := HF6.out.under hb
  have HO7 : Hid (OwnD w7 (fun b => w6.heap.size ≤ b ∧ b < w7.heap.size) y2 (evsD L)) := ownE ho
  have HB7 : Hid (Below w.heap.size w w7) := HB6.out.trans (hb.mono HB6.out.size)
  have hs7 : w6.heap.size ≤ w7.heap.size := hb.size
  have Z7' : Hid (Bk w7 (w.heap.size + 1 + 1) 36 #[.int .i64 0, .slice none 0 0, .int .i64 0, .int .i64 0, .slice none 0 0, .slice none 0 0, .slice none 0 0]) := Z6.out.below hb
  obtain ⟨a7, c7, rfl⟩ := owns_slice ho
  clear hb ho Z6
  have z0 := Z7'.out.cell (i := 0) rfl
  have z1 := Z7'.out.cell (i := 1) rfl
  have z2 := Z7'.out.cell (i := 2) rfl
  have z3 := Z7'.out.cell (i := 3) rfl
  have z4 := Z7'.out.cell (i := 4) rfl
  have z5 := Z7'.out.cell (i := 5) rfl
  have z6 := Z7'.out.cell (i := 6) rfl
  have zf := Z7'.out.free
  obtain ⟨X5, hX5⟩ : ∃ X5, put7s w7 (w.heap.size + 1 + 1) (.int .i64 A.n) (.slice r1 A.st.r.length s1) (.int .i64 A.st.q) (.int .i64 A.st.d) (.slice r4 A.p.length s4) (.slice r5 A.t.length s5) (.slice r6 A.a.length s6) = X5 := ⟨_, rfl⟩
  have hP := Z7'.out.put7s (.int .i64 A.n) (.slice r1 A.st.r.length s1) (.int .i64 A.st.q) (.int .i64 A.st.d) (.slice r4 A.p.length s4) (.slice r5 A.t.length s5) (.slice r6 A.a.length s6)
  have ht := put7s_turns w7 (w.heap.size + 1 + 1) (.int .i64 A.n) (.slice r1 A.st.r.length s1) (.int .i64 A.st.q) (.int .i64 A.st.d) (.slice r4 A.p.length s4) (.slice r5 A.t.length s5) (.slice r6 A.a.length s6)
  rw [hX5] at hP ht
  unfold put7s at hX5
  have HX5 : Hid _ := hX5
  have HP5 : Hid (Bk X5 (w.heap.size + 1 + 1) 36 #[.int .i64 A.n, .slice r1 A.st.r.length s1, .int .i64 A.st.q, .int .i64 A.st.d, .slice r4 A.p.length s4, .slice r5 A.t.length s5, .slice r6 A.a.length s6]) := hP
  have HT5 : Hid (Turns (fun b => b = (w.heap.size + 1 + 1)) w7 X5) := ht
  clear hX5 hP ht
  go_wp2
  try rw [HX5.out]
  have t0 := HP5.out.cell (i := 0) rfl
  have t1 := HP5.out.cell (i := 1) rfl
  have t2 := HP5.out.cell (i := 2) rfl
  have t3 := HP5.out.cell (i := 3) rfl
  have t4 := HP5.out.cell (i := 4) rfl
  have t5 := HP5.out.cell (i := 5) rfl
  have t6 := HP5.out.cell (i := 6) rfl
  refine bodyPost_ret (v := .tuple #[.agg #[.int .i64 A.n, .slice r1 A.st.r.length s1, .int .i64 A.st.q, .int .i64 A.st.d, .slice r4 A.p.length s4, .slice r5 A.t.length s5, .slice r6 A.a.length s6], .slice a7 L.length c7]) (by simp [results, Try.results16, go_sem, t0, t1, t2, t3, t4, t5, t6]) rfl ?_
  have hA : backA p e = A ∧ backB p e = L := by unfold backA backB; rw [HOK.out, HEV.out, HAL.out.1, HAL.out.2, HOA.out]; exact ⟨rfl, rfl⟩
  rw [hA.1, hA.2]
  have hsx := HT5.out.size
  exact ⟨_, _, rfl, HB7.out.trans (HT5.out.to_below (fun b e => by omega) HB7.out.size), _, _, HF7.out.turns HT5.out (fun b hb e => by omega), HO7.out.turns HT5.out (fun b hb e => by omega), fun b hb => ⟨by omega, fun hg => by omega⟩, fun b hb => by omega⟩
end Go.Proofs.Ytdcnimdhfhbdmaa

