/- Both Last. -/
import Derived.Test.YtglmdocokfnmcaaExactLastG23
namespace Go.Proofs.Ytglmdocokfnmcaa
open Go.RowKit
/- The last that was done. -/
noncomputable def Pa.last (p : Pa) : Ev := if p.ok = true ∧ 0 < p.p.length then (psAt p.p (p.p.length - 1)).e else ⟨0, 0, 0, 0, 0, 0, 0⟩
noncomputable def Pa.lastOk (p : Pa) : Bool := p.ok && decide (0 < p.p.length)
set_option maxRecDepth 100000 in
set_option maxHeartbeats 8000000 in
theorem sLast (x : Value) (p : Pa) (w : World) (hw : p.wt ≤ 1048576) (h : IsPart w x p) :
    Calls Try.prog 13 #[x] w fun e w' => e = .returned (.tuple #[p.last.val, .bool p.lastOk]) ∧ Below w.heap.size w w' := by
  have HI : Hid (IsPart w x p) := h
  have HWT : Hid (p.wt ≤ 1048576) := hw
  obtain ⟨v1, v4, v5, v6, rfl, h1, h4, h5, h6⟩ := h
  have hpl : p.p.length ≤ 1048576 := by have := pastsD_wt p.p; unfold Pa.wt at hw; omega
  obtain ⟨pa, pc, rfl, _, _, h4⟩ := IsD.parts (c := 12) (n := p.p.length) h4
  have H4 : Hid (p.p.length = 0 ∨ ∃ b off, pa = some ⟨b, off, none⟩ ∧ b < w.heap.size ∧ ∀ j, j < p.p.length * 12 → ∃ u, w.cell? ⟨b, off + j, none⟩ = some u ∧ IsD w u (pastsD_f p.p j)) := h4
  clear h1 h4 h5 h6 hw
  obtain ⟨W0, hW0⟩ : ∃ W0, (w.alloc (.cells #[.int .i64 p.n, v1, .int .i64 p.st.q, .int .i64 p.st.d, .slice pa p.p.length pc, v5, v6] 35)).alloc (.cells #[.int .i64 0, .int .i64 0, .int .i64 0, .int .i64 0, .int .i64 0, .int .i64 0, .int .i64 0] 40) = W0 := ⟨_, rfl⟩
  have HB0 : Hid (Below w.heap.size w W0) := by rw [← hW0]; exact ((Below.refl _ w).alloc (Nat.le_refl _) _).alloc (by simp) _
  have HP0 : Hid (Bk W0 w.heap.size 35 #[.int .i64 p.n, v1, .int .i64 p.st.q, .int .i64 p.st.d, .slice pa p.p.length pc, v5, v6]) := by rw [← hW0]; exact (Bk.new w _ _).alloc _
  have HQ0 : Hid (Bk W0 (w.heap.size + 1) 40 #[.int .i64 0, .int .i64 0, .int .i64 0, .int .i64 0, .int .i64 0, .int .i64 0, .int .i64 0]) := by rw [← hW0]; exact Bk.newAt (by simp) _ _
  have hs0 : w.heap.size + 2 ≤ W0.heap.size := by rw [← hW0]; simp
  have p0 := HP0.out.cell (i := 0) rfl
  have p1 := HP0.out.cell (i := 1) rfl
  have p2 := HP0.out.cell (i := 2) rfl
  have p3 := HP0.out.cell (i := 3) rfl
  have p4 := HP0.out.cell (i := 4) rfl
  have p5 := HP0.out.cell (i := 5) rfl
  have p6 := HP0.out.cell (i := 6) rfl
  go_enter Try.func13, Try.ntmps13
  go_wp2_with fail
  clear p0 p1 p2 p3 p4 p5 p6
  refine (sPartOk_is _ p _ HWT.out (HI.out.under HB0.out)).mono ?_
  rintro e w1 ⟨rfl, hb⟩
  have HB1 : Hid (Below w.heap.size w w1) := HB0.out.trans (hb.mono HB0.out.size)
  have HP1 : Hid (Bk w1 w.heap.size 35 #[.int .i64 p.n, v1, .int .i64 p.st.q, .int .i64 p.st.d, .slice pa p.p.length pc, v5, v6]) := HP0.out.below hb
  have H1Q : Hid (Bk w1 (w.heap.size + 1) 40 #[.int .i64 0, .int .i64 0, .int .i64 0, .int .i64 0, .int .i64 0, .int .i64 0, .int .i64 0]) := HQ0.out.below hb
  have hs1 : w.heap.size + 2 ≤ w1.heap.size := Nat.le_trans hs0 hb.size
  clear hb hW0
  cases hok : p.ok
  · have HZ : Hid (p.last = ⟨0, 0, 0, 0, 0, 0, 0⟩ ∧ p.lastOk = false) := by
      exact ⟨by unfold Pa.last; rw [hok]; rfl, by unfold Pa.lastOk; rw [hok]; rfl⟩
    have z0 := H1Q.out.cell (i := 0) rfl
    have z1 := H1Q.out.cell (i := 1) rfl
    have z2 := H1Q.out.cell (i := 2) rfl
    have z3 := H1Q.out.cell (i := 3) rfl
    have z4 := H1Q.out.cell (i := 4) rfl
    have z5 := H1Q.out.cell (i := 5) rfl
    have z6 := H1Q.out.cell (i := 6) rfl
    have zf := H1Q.out.free
    clear hok
    go_wp2
    rw [HZ.out.1, HZ.out.2]
    exact bodyPost_ret (v := .tuple #[Ev.val ⟨0, 0, 0, 0, 0, 0, 0⟩, .bool false]) (by simp [results, Try.results13, go_sem, z0, z1, z2, z3, z4, z5, z6]) rfl ⟨rfl, put7_below HB1.out (by omega) 0 ⟨0, 0, 0, 0, 0, 0, 0⟩⟩
  by_cases hz : p.p.length = 0
  · have HZ : Hid (p.last = ⟨0, 0, 0, 0, 0, 0, 0⟩ ∧ p.lastOk = false) := by
      exact ⟨by unfold Pa.last; rw [if_neg (by omega)], by unfold Pa.lastOk; rw [decide_eq_false (by omega), Bool.and_false]⟩
    have z0 := H1Q.out.cell (i := 0) rfl
    have z1 := H1Q.out.cell (i := 1) rfl
    have z2 := H1Q.out.cell (i := 2) rfl
    have z3 := H1Q.out.cell (i := 3) rfl
    have z4 := H1Q.out.cell (i := 4) rfl
    have z5 := H1Q.out.cell (i := 5) rfl
    have z6 := H1Q.out.cell (i := 6) rfl
    have zf := H1Q.out.free
    have q4 := HP1.out.cell (i := 4) rfl
    have hz' : ((p.p.length : Int) == 0) = true := by simp [hz]
    clear hok hz
    go_wp2
    rw [HZ.out.1, HZ.out.2]
    exact bodyPost_ret (v := .tuple #[Ev.val ⟨0, 0, 0, 0, 0, 0, 0⟩, .bool false]) (by simp [results, Try.results13, go_sem, z0, z1, z2, z3, z4, z5, z6]) rfl ⟨rfl, put7_below HB1.out (by omega) 0 ⟨0, 0, 0, 0, 0, 0, 0⟩⟩
  have hz' : ((p.p.length : Int) == 0) = false := beq_eq_false_iff_ne.2 (by omega)
  obtain ⟨b, off, hpa, hbb, hc⟩ := H4.out.resolve_left (by omega)
  subst hpa
  have hEv : Ev.In w1 b (off + (p.p.length - 1) * 12) (psAt p.p (p.p.length - 1)).e := by
    have hh : ∀ r, r < 7 → w1.cell? ⟨b, off + (p.p.length - 1) * 12 + r, none⟩ = some ((psAt p.p (p.p.length - 1)).e.cs.getD r (.int .i64 0)) := fun r hr => by
      obtain ⟨u, hu, hd⟩ := hc ((p.p.length - 1) * 12 + r) (by omega)
      rw [pastsD_at p.p (p.p.length - 1) (r := r) (by omega)] at hd
      rw [HB1.out.cell (p := ⟨b, off + (p.p.length - 1) * 12 + r, none⟩) hbb, Nat.add_assoc, hu]
      match r, hr, hd with
      | 0, _, hd => rw [hd.val_eq]; rfl
      | 1, _, hd => rw [hd.val_eq]; rfl
      | 2, _, hd => rw [hd.val_eq]; rfl
      | 3, _, hd => rw [hd.val_eq]; rfl
      | 4, _, hd => rw [hd.val_eq]; rfl
      | 5, _, hd => rw [hd.val_eq]; rfl
      | 6, _, hd => rw [hd.val_eq]; rfl
    exact ⟨hh 0 (by omega), hh 1 (by omega), hh 2 (by omega), hh 3 (by omega), hh 4 (by omega), hh 5 (by omega), hh 6 (by omega)⟩
  obtain ⟨f0, f1, f2, f3, f4, f5, f6⟩ := hEv
  have q4 := HP1.out.cell (i := 4) rfl
  have hkp : (1 : Int) ≤ (p.p.length : Int) := by omega
  have ek : ((p.p.length : Int) - 1).toNat = p.p.length - 1 := by omega
  clear hc
  have HZ : Hid (p.last = (psAt p.p (p.p.length - 1)).e ∧ p.lastOk = true) := by
    exact ⟨by unfold Pa.last; rw [if_pos ⟨hok, by omega⟩], by unfold Pa.lastOk; rw [hok, decide_eq_true (by omega)]; rfl⟩
  have z0 := H1Q.out.cell (i := 0) rfl
  have z1 := H1Q.out.cell (i := 1) rfl
  have z2 := H1Q.out.cell (i := 2) rfl
  have z3 := H1Q.out.cell (i := 3) rfl
  have z4 := H1Q.out.cell (i := 4) rfl
  have z5 := H1Q.out.cell (i := 5) rfl
  have z6 := H1Q.out.cell (i := 6) rfl
  have zf := H1Q.out.free
  clear hok
  go_wp2
  rw [HZ.out.1, HZ.out.2]
  exact bodyPost_ret (v := .tuple #[Ev.val (psAt p.p (p.p.length - 1)).e, .bool true]) (by simp [results, Try.results13, go_sem, z0, z1, z2, z3, z4, z5, z6]) rfl ⟨rfl, put7_below HB1.out (by omega) 0 (psAt p.p (p.p.length - 1)).e⟩
set_option maxRecDepth 100000 in
set_option maxHeartbeats 8000000 in
theorem iLast (x : Value) (p : Pa) (w : World) (hw : p.wt ≤ 1048576) (h : IsPart w x p) :
    Calls Try.prog 14 #[x] w fun e w' => e = .returned (.tuple #[p.last.val, .bool p.lastOk]) ∧ Below w.heap.size w w' := by
  have HI : Hid (IsPart w x p) := h
  have HWT : Hid (p.wt ≤ 1048576) := hw
  obtain ⟨v1, v4, v5, v6, rfl, h1, h4, h5, h6⟩ := h
  have hpl : p.p.length ≤ 1048576 := by have := pastsD_wt p.p; unfold Pa.wt at hw; omega
  obtain ⟨pa, pc, rfl, _, _, h4⟩ := IsD.parts (c := 12) (n := p.p.length) h4
  have H4 : Hid (p.p.length = 0 ∨ ∃ b off, pa = some ⟨b, off, none⟩ ∧ b < w.heap.size ∧ ∀ j, j < p.p.length * 12 → ∃ u, w.cell? ⟨b, off + j, none⟩ = some u ∧ IsD w u (pastsD_f p.p j)) := h4
  clear h1 h4 h5 h6 hw
  obtain ⟨W0, hW0⟩ : ∃ W0, (w.alloc (.cells #[.int .i64 p.n, v1, .int .i64 p.st.q, .int .i64 p.st.d, .slice pa p.p.length pc, v5, v6] 35)).alloc (.cells #[.int .i64 0, .int .i64 0, .int .i64 0, .int .i64 0, .int .i64 0, .int .i64 0, .int .i64 0] 40) = W0 := ⟨_, rfl⟩
  have HB0 : Hid (Below w.heap.size w W0) := by rw [← hW0]; exact ((Below.refl _ w).alloc (Nat.le_refl _) _).alloc (by simp) _
  have HP0 : Hid (Bk W0 w.heap.size 35 #[.int .i64 p.n, v1, .int .i64 p.st.q, .int .i64 p.st.d, .slice pa p.p.length pc, v5, v6]) := by rw [← hW0]; exact (Bk.new w _ _).alloc _
  have HQ0 : Hid (Bk W0 (w.heap.size + 1) 40 #[.int .i64 0, .int .i64 0, .int .i64 0, .int .i64 0, .int .i64 0, .int .i64 0, .int .i64 0]) := by rw [← hW0]; exact Bk.newAt (by simp) _ _
  have hs0 : w.heap.size + 2 ≤ W0.heap.size := by rw [← hW0]; simp
  have p0 := HP0.out.cell (i := 0) rfl
  have p1 := HP0.out.cell (i := 1) rfl
  have p2 := HP0.out.cell (i := 2) rfl
  have p3 := HP0.out.cell (i := 3) rfl
  have p4 := HP0.out.cell (i := 4) rfl
  have p5 := HP0.out.cell (i := 5) rfl
  have p6 := HP0.out.cell (i := 6) rfl
  by_cases hz : p.p.length = 0
  · have hz' : ((p.p.length : Int) == 0) = true := by simp [hz]
    have H0Q := HQ0
    have HZ : Hid (p.last = ⟨0, 0, 0, 0, 0, 0, 0⟩ ∧ p.lastOk = false) := by
      exact ⟨by unfold Pa.last; rw [if_neg (by omega)], by unfold Pa.lastOk; rw [decide_eq_false (by omega), Bool.and_false]⟩
    have z0 := H0Q.out.cell (i := 0) rfl
    have z1 := H0Q.out.cell (i := 1) rfl
    have z2 := H0Q.out.cell (i := 2) rfl
    have z3 := H0Q.out.cell (i := 3) rfl
    have z4 := H0Q.out.cell (i := 4) rfl
    have z5 := H0Q.out.cell (i := 5) rfl
    have z6 := H0Q.out.cell (i := 6) rfl
    have zf := H0Q.out.free
    clear hz
    go_enter Try.func14, Try.ntmps14
    go_wp2
    rw [HZ.out.1, HZ.out.2]
    exact bodyPost_ret (v := .tuple #[Ev.val ⟨0, 0, 0, 0, 0, 0, 0⟩, .bool false]) (by simp [results, Try.results14, go_sem, z0, z1, z2, z3, z4, z5, z6]) rfl ⟨rfl, put7_below HB0.out (by omega) 0 ⟨0, 0, 0, 0, 0, 0, 0⟩⟩
  have hz' : ((p.p.length : Int) == 0) = false := beq_eq_false_iff_ne.2 (by omega)
  go_enter Try.func14, Try.ntmps14
  go_wp2_with fail
  clear p0 p1 p2 p3 p4 p5 p6
  refine (iPartOk_is _ p _ HWT.out (HI.out.under HB0.out)).mono ?_
  rintro e w1 ⟨rfl, hb⟩
  have HB1 : Hid (Below w.heap.size w w1) := HB0.out.trans (hb.mono HB0.out.size)
  have HP1 : Hid (Bk w1 w.heap.size 35 #[.int .i64 p.n, v1, .int .i64 p.st.q, .int .i64 p.st.d, .slice pa p.p.length pc, v5, v6]) := HP0.out.below hb
  have H1Q : Hid (Bk w1 (w.heap.size + 1) 40 #[.int .i64 0, .int .i64 0, .int .i64 0, .int .i64 0, .int .i64 0, .int .i64 0, .int .i64 0]) := HQ0.out.below hb
  have hs1 : w.heap.size + 2 ≤ w1.heap.size := Nat.le_trans hs0 hb.size
  clear hb hW0
  cases hok : p.ok
  · have HZ : Hid (p.last = ⟨0, 0, 0, 0, 0, 0, 0⟩ ∧ p.lastOk = false) := by
      exact ⟨by unfold Pa.last; rw [hok]; rfl, by unfold Pa.lastOk; rw [hok]; rfl⟩
    have z0 := H1Q.out.cell (i := 0) rfl
    have z1 := H1Q.out.cell (i := 1) rfl
    have z2 := H1Q.out.cell (i := 2) rfl
    have z3 := H1Q.out.cell (i := 3) rfl
    have z4 := H1Q.out.cell (i := 4) rfl
    have z5 := H1Q.out.cell (i := 5) rfl
    have z6 := H1Q.out.cell (i := 6) rfl
    have zf := H1Q.out.free
    clear hok
    go_wp2
    rw [HZ.out.1, HZ.out.2]
    exact bodyPost_ret (v := .tuple #[Ev.val ⟨0, 0, 0, 0, 0, 0, 0⟩, .bool false]) (by simp [results, Try.results14, go_sem, z0, z1, z2, z3, z4, z5, z6]) rfl ⟨rfl, put7_below HB1.out (by omega) 0 ⟨0, 0, 0, 0, 0, 0, 0⟩⟩
  obtain ⟨b, off, hpa, hbb, hc⟩ := H4.out.resolve_left (by omega)
  subst hpa
  have hEv : Ev.In w1 b (off + (p.p.length - 1) * 12) (psAt p.p (p.p.length - 1)).e := by
    have hh : ∀ r, r < 7 → w1.cell? ⟨b, off + (p.p.length - 1) * 12 + r, none⟩ = some ((psAt p.p (p.p.length - 1)).e.cs.getD r (.int .i64 0)) := fun r hr => by
      obtain ⟨u, hu, hd⟩ := hc ((p.p.length - 1) * 12 + r) (by omega)
      rw [pastsD_at p.p (p.p.length - 1) (r := r) (by omega)] at hd
      rw [HB1.out.cell (p := ⟨b, off + (p.p.length - 1) * 12 + r, none⟩) hbb, Nat.add_assoc, hu]
      match r, hr, hd with
      | 0, _, hd => rw [hd.val_eq]; rfl
      | 1, _, hd => rw [hd.val_eq]; rfl
      | 2, _, hd => rw [hd.val_eq]; rfl
      | 3, _, hd => rw [hd.val_eq]; rfl
      | 4, _, hd => rw [hd.val_eq]; rfl
      | 5, _, hd => rw [hd.val_eq]; rfl
      | 6, _, hd => rw [hd.val_eq]; rfl
    exact ⟨hh 0 (by omega), hh 1 (by omega), hh 2 (by omega), hh 3 (by omega), hh 4 (by omega), hh 5 (by omega), hh 6 (by omega)⟩
  obtain ⟨f0, f1, f2, f3, f4, f5, f6⟩ := hEv
  have q4 := HP1.out.cell (i := 4) rfl
  have hkp : (1 : Int) ≤ (p.p.length : Int) := by omega
  have ek : ((p.p.length : Int) - 1).toNat = p.p.length - 1 := by omega
  clear hc
  have HZ : Hid (p.last = (psAt p.p (p.p.length - 1)).e ∧ p.lastOk = true) := by
    exact ⟨by unfold Pa.last; rw [if_pos ⟨hok, by omega⟩], by unfold Pa.lastOk; rw [hok, decide_eq_true (by omega)]; rfl⟩
  have z0 := H1Q.out.cell (i := 0) rfl
  have z1 := H1Q.out.cell (i := 1) rfl
  have z2 := H1Q.out.cell (i := 2) rfl
  have z3 := H1Q.out.cell (i := 3) rfl
  have z4 := H1Q.out.cell (i := 4) rfl
  have z5 := H1Q.out.cell (i := 5) rfl
  have z6 := H1Q.out.cell (i := 6) rfl
  have zf := H1Q.out.free
  clear hok
  go_wp2
  rw [HZ.out.1, HZ.out.2]
  exact bodyPost_ret (v := .tuple #[Ev.val (psAt p.p (p.p.length - 1)).e, .bool true]) (by simp [results, Try.results14, go_sem, z0, z1, z2, z3, z4, z5, z6]) rfl ⟨rfl, put7_below HB1.out (by omega) 0 (psAt p.p (p.p.length - 1)).e⟩
end Go.Proofs.Ytglmdocokfnmcaa
