/- PSv, TPsA -/
import Derived.Test.YtglmdocokfnmcaaExactSavedG23
import Derived.Test.YtglmdocokfnmcaaExactSavedG06
/- Both Saved. -/
namespace Go.Proofs.Ytglmdocokfnmcaa
open Go.RowKit
/- How much is kept: a state, and all that was sent, for each. -/
def keptN (p : Pa) (k : Nat) : Nat := sumL (fun i => 1 + (psAt p.p i).s.length) k
noncomputable def Pa.saved (p : Pa) : Int := if p.ok = true then (keptN p p.p.length : Int) else 0
theorem sumL_split (L : Nat → Nat) : ∀ n, sumL (fun i => 1 + L i) n = n + sumL L n
  | 0 => rfl
  | n + 1 => by simp only [sumL]; rw [sumL_split L n]; omega
theorem kept_le {p : Pa} (hw : p.wt ≤ 1048576) {k : Nat} (hk : k ≤ p.p.length) : keptN p k ≤ 1048576 := by
  have h1 := sumL_mono (fun i => 1 + (psAt p.p i).s.length) hk
  have h2 := pastsD_wt p.p
  have h3 : sumL (fun i => (psAt p.p i).s.length) p.p.length ≤ sumL (fun i => (psAt p.p i).wt) p.p.length := sumL_le (fun j _ => by unfold Ps.wt; simp only [ints_wt, evs_wt, ems_wt]; omega)
  have h4 := sumL_split (fun i => (psAt p.p i).s.length) p.p.length
  unfold Pa.wt at hw
  unfold keptN
  omega
set_option maxRecDepth 100000 in
set_option maxHeartbeats 8000000 in
theorem sSaved (x : Value) (p : Pa) (w : World) (hw : p.wt ≤ 1048576) (h : IsPart w x p) :
    Calls Try.prog 16 #[x] w fun e w' => e = .returned (.int .i64 p.saved) ∧ Below w.heap.size w w' := by
  have HI : Hid (IsPart w x p) := h
  have HWT : Hid (p.wt ≤ 1048576) := hw
  obtain ⟨v1, v4, v5, v6, rfl, h1, h4, h5, h6⟩ := h
  have hpl : p.p.length ≤ 1048576 := by have := pastsD_wt p.p; unfold Pa.wt at hw; omega
  obtain ⟨pa, pc, rfl, _, _, h4⟩ := IsD.parts (c := 12) (n := p.p.length) h4
  have H4 : Hid (p.p.length = 0 ∨ ∃ b off, pa = some ⟨b, off, none⟩ ∧ b < w.heap.size ∧ ∀ j, j < p.p.length * 12 → ∃ u, w.cell? ⟨b, off + j, none⟩ = some u ∧ IsD w u (pastsD_f p.p j)) := h4
  clear h1 h4 h5 h6 hw
  have HK : Hid (∀ k, k ≤ p.p.length → keptN p k ≤ 1048576) := fun k hk => kept_le HWT.out hk
  obtain ⟨W0, hW0⟩ : ∃ W0, w.alloc (.cells #[.int .i64 p.n, v1, .int .i64 p.st.q, .int .i64 p.st.d, .slice pa p.p.length pc, v5, v6] 35) = W0 := ⟨_, rfl⟩
  have HB0 : Hid (Below w.heap.size w W0) := by rw [← hW0]; exact (Below.refl _ w).alloc (Nat.le_refl _) _
  have HP0 : Hid (Bk W0 w.heap.size 35 #[.int .i64 p.n, v1, .int .i64 p.st.q, .int .i64 p.st.d, .slice pa p.p.length pc, v5, v6]) := by rw [← hW0]; exact Bk.new w _ _
  have p0 := HP0.out.cell (i := 0) rfl
  have p1 := HP0.out.cell (i := 1) rfl
  have p2 := HP0.out.cell (i := 2) rfl
  have p3 := HP0.out.cell (i := 3) rfl
  have p4 := HP0.out.cell (i := 4) rfl
  have p5 := HP0.out.cell (i := 5) rfl
  have p6 := HP0.out.cell (i := 6) rfl
  go_enter Try.func16, Try.ntmps16
  go_wp2_with fail
  clear hW0 p0 p1 p2 p3 p4 p5 p6
  refine (sPartOk_is _ p _ HWT.out (HI.out.under HB0.out)).mono ?_
  rintro e w1 ⟨rfl, hb⟩
  have HB1 : Hid (Below w.heap.size w w1) := HB0.out.trans (hb.mono HB0.out.size)
  have HP1 : Hid (Bk w1 w.heap.size 35 #[.int .i64 p.n, v1, .int .i64 p.st.q, .int .i64 p.st.d, .slice pa p.p.length pc, v5, v6]) := HP0.out.below hb
  clear hb
  cases hok : p.ok
  · have HR : Hid (p.saved = 0) := by show p.saved = 0; unfold Pa.saved; rw [hok]; rfl
    clear hok
    go_wp2
    go_ret
    exact ⟨ret_int HR.out.symm, HB1.out⟩
  have HR : Hid (p.saved = (keptN p p.p.length : Int)) := by show p.saved = _; unfold Pa.saved; rw [hok]; rfl
  clear hok
  go_wp2
  go_loop [4, 3] (fun i z => ∃ k : Nat, k ≤ p.p.length ∧ i = .int .i64 k ∧ z = .int .i64 (keptN p k : Int)) (fun i _ => p.p.length - (intOf i).toNat)
  case atStart => exact ⟨0, Nat.zero_le _, rfl, by simp [keptN, sumL]⟩
  case round =>
    obtain ⟨k, hk, rfl, rfl⟩ := hrel
    have q4 := HP1.out.cell (i := 4) rfl
    by_cases hlt : k < p.p.length
    · obtain ⟨b, off, rfl, hb, hc⟩ := H4.out.resolve_left (by omega)
      obtain ⟨ua, ub, uc, f0, f1, f2, f3, f4, f5, f6, f7, f8, f9, f10, f11, d7, d10, d11⟩ := pastsD_in (l := p.p) (n := p.p.length) (fun j hj => by
        obtain ⟨u, hu, hd⟩ := hc j hj
        exact ⟨u, (HB1.out.cell (p := ⟨b, off + j, none⟩) hb).trans hu, hd.under HB1.out⟩) hlt
      obtain ⟨a10, c10, rfl, _⟩ := IsD.len (c := 7) (n := (psAt p.p k).s.length) d10
      have hk1 := HK.out (k + 1) (by omega)
      have HE : Hid (keptN p (k + 1) = keptN p k + (1 + (psAt p.p k).s.length)) := rfl
      have hk2 : keptN p k + (1 + (psAt p.p k).s.length) ≤ 1048576 := by have := HE.out; omega
      have hki : (k : Int) < (p.p.length : Int) := by omega
      clear hc d7 d10 d11 hk1
      generalize hg : keptN p k = kk at hk2
      have HG : Hid (keptN p k = kk) := hg
      clear hg
      go_wp2
      go_round
      case rel => exact ⟨k + 1, by omega, by go_num, by rw [show (kk : Int) + 1 + ((psAt p.p k).s.length : Int) = (keptN p (k + 1) : Int) from by have h8 := HE.out; have h9 := HG.out; omega]⟩
      case measure => simp [intOf]; omega
    · have he : k = p.p.length := by omega
      have HE : Hid (keptN p k = keptN p p.p.length) := by rw [he]; exact rfl
      go_wp2
      go_ret
      exact ⟨ret_int (by first | rw [HR.out, HE.out] | rw [HR.out]), HB1.out⟩
set_option maxRecDepth 100000 in
set_option maxHeartbeats 8000000 in
theorem iSaved (x : Value) (p : Pa) (w : World) (hw : p.wt ≤ 1048576) (h : IsPart w x p) :
    Calls Try.prog 17 #[x] w fun e w' => e = .returned (.int .i64 p.saved) ∧ Below w.heap.size w w' := by
  have HI : Hid (IsPart w x p) := h
  have HWT : Hid (p.wt ≤ 1048576) := hw
  obtain ⟨v1, v4, v5, v6, rfl, h1, h4, h5, h6⟩ := h
  have hpl : p.p.length ≤ 1048576 := by have := pastsD_wt p.p; unfold Pa.wt at hw; omega
  obtain ⟨pa, pc, rfl, _, _, h4⟩ := IsD.parts (c := 12) (n := p.p.length) h4
  have H4 : Hid (p.p.length = 0 ∨ ∃ b off, pa = some ⟨b, off, none⟩ ∧ b < w.heap.size ∧ ∀ j, j < p.p.length * 12 → ∃ u, w.cell? ⟨b, off + j, none⟩ = some u ∧ IsD w u (pastsD_f p.p j)) := h4
  clear h1 h4 h5 h6 hw
  have HK : Hid (∀ k, k ≤ p.p.length → keptN p k ≤ 1048576) := fun k hk => kept_le HWT.out hk
  obtain ⟨W0, hW0⟩ : ∃ W0, w.alloc (.cells #[.int .i64 p.n, v1, .int .i64 p.st.q, .int .i64 p.st.d, .slice pa p.p.length pc, v5, v6] 35) = W0 := ⟨_, rfl⟩
  have HB0 : Hid (Below w.heap.size w W0) := by rw [← hW0]; exact (Below.refl _ w).alloc (Nat.le_refl _) _
  have HP0 : Hid (Bk W0 w.heap.size 35 #[.int .i64 p.n, v1, .int .i64 p.st.q, .int .i64 p.st.d, .slice pa p.p.length pc, v5, v6]) := by rw [← hW0]; exact Bk.new w _ _
  have p0 := HP0.out.cell (i := 0) rfl
  have p1 := HP0.out.cell (i := 1) rfl
  have p2 := HP0.out.cell (i := 2) rfl
  have p3 := HP0.out.cell (i := 3) rfl
  have p4 := HP0.out.cell (i := 4) rfl
  have p5 := HP0.out.cell (i := 5) rfl
  have p6 := HP0.out.cell (i := 6) rfl
  go_enter Try.func17, Try.ntmps17
  go_wp2_with fail
  clear hW0 p0 p1 p2 p3 p4 p5 p6
  refine (iPartOk_is _ p _ HWT.out (HI.out.under HB0.out)).mono ?_
  rintro e w1 ⟨rfl, hb⟩
  have HB1 : Hid (Below w.heap.size w w1) := HB0.out.trans (hb.mono HB0.out.size)
  have HP1 : Hid (Bk w1 w.heap.size 35 #[.int .i64 p.n, v1, .int .i64 p.st.q, .int .i64 p.st.d, .slice pa p.p.length pc, v5, v6]) := HP0.out.below hb
  clear hb
  cases hok : p.ok
  · have HR : Hid (p.saved = 0) := by show p.saved = 0; unfold Pa.saved; rw [hok]; rfl
    clear hok
    go_wp2
    go_ret
    exact ⟨ret_int HR.out.symm, HB1.out⟩
  have HR : Hid (p.saved = (keptN p p.p.length : Int)) := by show p.saved = _; unfold Pa.saved; rw [hok]; rfl
  clear hok
  have q4 := HP1.out.cell (i := 4) rfl
  have hs1 : w.heap.size < w1.heap.size := HP1.out.lt
  go_wp2
  clear q4
  go_loopw [15, 3] (fun i z wr => ∃ k : Nat, k ≤ p.p.length ∧ i = .int .i64 k ∧ z = .int .i64 ((p.p.length : Int) + (sumL (fun i => (psAt p.p i).s.length) k : Int)) ∧ Below w1.heap.size w1 wr) (fun i _ _ => p.p.length - (intOf i).toNat)
  case atStart => exact ⟨0, Nat.zero_le _, rfl, by simp [sumL], Below.refl _ _⟩
  case round =>
    obtain ⟨k, hk, rfl, rfl, hB⟩ := hrel
    have HBr : Hid (Below w1.heap.size w1 wr) := hB
    have HBw : Hid (Below w.heap.size w wr) := HB1.out.trans (hB.mono (by omega))
    have hsr : w1.heap.size ≤ wr.heap.size := hB.size
    clear hB
    by_cases hlt : k < p.p.length
    · obtain ⟨b, off, hpa, hb, hc⟩ := H4.out.resolve_left (by omega)
      subst hpa
      obtain ⟨ua, ub, uc, f0, f1, f2, f3, f4, f5, f6, f7, f8, f9, f10, f11, d7, d10, d11⟩ := pastsD_in (l := p.p) (n := p.p.length) (fun j hj => by
        obtain ⟨u, hu, hd⟩ := hc j hj
        exact ⟨u, (HBw.out.cell (p := ⟨b, off + j, none⟩) hb).trans hu, hd.under HBw.out⟩) hlt
      obtain ⟨a7, c7, rfl, _⟩ := IsD.len (c := 1) (n := (psAt p.p k).b.r.length) d7
      obtain ⟨a10, c10, rfl, _⟩ := IsD.len (c := 7) (n := (psAt p.p k).s.length) d10
      obtain ⟨a11, c11, rfl, _⟩ := IsD.len (c := 3) (n := (psAt p.p k).x.length) d11
      obtain ⟨W1, hW1⟩ : ∃ W1, wr.alloc (.cells #[.int .i64 (psAt p.p k).e.t, .int .i64 (psAt p.p k).e.s, .int .i64 (psAt p.p k).e.q, .int .i64 (psAt p.p k).e.d, .int .i64 (psAt p.p k).e.k, .int .i64 (psAt p.p k).e.v, .int .i64 (psAt p.p k).e.g, .slice a7 (psAt p.p k).b.r.length c7, .int .i64 (psAt p.p k).b.q, .int .i64 (psAt p.p k).b.d, .slice a10 (psAt p.p k).s.length c10, .slice a11 (psAt p.p k).x.length c11] 65) = W1 := ⟨_, rfl⟩
      have HB2 : Hid (Below wr.heap.size wr W1) := by rw [← hW1]; exact (Below.refl _ wr).alloc (Nat.le_refl _) _
      have HX : Bk W1 wr.heap.size 65 #[.int .i64 (psAt p.p k).e.t, .int .i64 (psAt p.p k).e.s, .int .i64 (psAt p.p k).e.q, .int .i64 (psAt p.p k).e.d, .int .i64 (psAt p.p k).e.k, .int .i64 (psAt p.p k).e.v, .int .i64 (psAt p.p k).e.g, .slice a7 (psAt p.p k).b.r.length c7, .int .i64 (psAt p.p k).b.q, .int .i64 (psAt p.p k).b.d, .slice a10 (psAt p.p k).s.length c10, .slice a11 (psAt p.p k).x.length c11] := by rw [← hW1]; exact Bk.new _ _ _
      have x10 := HX.cell (i := 10) rfl
      have hk1 := HK.out (k + 1) (by omega)
      have hki : (k : Int) < (p.p.length : Int) := by omega
      have hk9 := HK.out p.p.length (Nat.le_refl _)
      have h5 := sumL_split (fun i => (psAt p.p i).s.length) p.p.length
      have h6 := sumL_mono (fun i => (psAt p.p i).s.length) (show k + 1 ≤ p.p.length from hlt)
      obtain ⟨kk, hg⟩ : ∃ kk, sumL (fun i => (psAt p.p i).s.length) k = kk := ⟨_, rfl⟩
      have HG : Hid (sumL (fun i => (psAt p.p i).s.length) k = kk) := hg
      have hk2 : p.p.length + (kk + (psAt p.p k).s.length) ≤ 1048576 := by
        have h7 : sumL (fun i => (psAt p.p i).s.length) (k + 1) = sumL (fun i => (psAt p.p i).s.length) k + (psAt p.p k).s.length := rfl
        unfold keptN at hk9
        omega
      rw [hg]
      clear hc d7 d10 d11 HX hk1 hk9 h5 h6 hg
      go_wp2
      go_roundw
      case rel => exact ⟨k + 1, by omega, by go_num, by rw [show (p.p.length : Int) + (kk : Int) + ((psAt p.p k).s.length : Int) = (p.p.length : Int) + (sumL (fun i => (psAt p.p i).s.length) (k + 1) : Int) from (by have h7 : sumL (fun i => (psAt p.p i).s.length) (k + 1) = sumL (fun i => (psAt p.p i).s.length) k + (psAt p.p k).s.length := rfl; have h9 := HG.out; omega)], HBr.out.trans (HB2.out.mono hsr)⟩
      case measure => simp [intOf]; omega
    · have he : k = p.p.length := by omega
      have HE : Hid ((p.p.length : Int) + (sumL (fun i => (psAt p.p i).s.length) k : Int) = (keptN p p.p.length : Int)) := by
        rw [he]
        show (p.p.length : Int) + _ = ((sumL (fun i => 1 + (psAt p.p i).s.length) p.p.length : Nat) : Int)
        rw [sumL_split]
        omega
      go_wp2
      go_ret
      exact ⟨ret_int (by rw [HR.out, HE.out]), HBw.out⟩
end Go.Proofs.Ytglmdocokfnmcaa

/- szPast, szPastS: how much there is; eqPast: two alike. -/
namespace Go.Proofs.Ytglmdocokfnmcaa
open Go.RowKit
set_option maxHeartbeats 4000000 in
theorem szPast_any (x : Value) (p : Ps) (left : Int) (w : World) (h0 : 0 ≤ left) (h1 : left ≤ 1048576) (h : IsPast w x p) :
    Calls Try.prog 73 #[x, .int .i64 left] w fun e w' => (∃ r, e = .returned (.int .i64 r) ∧ SzR p.wt left r) ∧ Below w.heap.size w w' := by
  obtain ⟨u7, u10, u11, rfl, h7, h10, h11⟩ := h
  have H7 : Hid (IsD w u7 (intsD p.b.r)) := h7
  have H10 : Hid (IsD w u10 (evsD p.s)) := h10
  have H11 : Hid (IsD w u11 (emsD p.x)) := h11
  clear h7 h10 h11
  obtain ⟨W0, hW0⟩ : ∃ W0, w.alloc (.cells #[.int .i64 p.e.t, .int .i64 p.e.s, .int .i64 p.e.q, .int .i64 p.e.d, .int .i64 p.e.k, .int .i64 p.e.v, .int .i64 p.e.g, u7, .int .i64 p.b.q, .int .i64 p.b.d, u10, u11] 96) = W0 := ⟨_, rfl⟩
  have HB0 : Hid (Below w.heap.size w W0) := by rw [← hW0]; exact (Below.refl _ w).alloc (Nat.le_refl _) _
  have HP0 : Hid (Bk W0 w.heap.size 96 #[.int .i64 p.e.t, .int .i64 p.e.s, .int .i64 p.e.q, .int .i64 p.e.d, .int .i64 p.e.k, .int .i64 p.e.v, .int .i64 p.e.g, u7, .int .i64 p.b.q, .int .i64 p.b.d, u10, u11]) := by rw [← hW0]; exact Bk.new w _ _
  have HW : Hid (w.alloc (.cells #[.int .i64 p.e.t, .int .i64 p.e.s, .int .i64 p.e.q, .int .i64 p.e.d, .int .i64 p.e.k, .int .i64 p.e.v, .int .i64 p.e.g, u7, .int .i64 p.b.q, .int .i64 p.b.d, u10, u11] 96) = W0) := hW0
  clear hW0
  go_enter Try.func73, Try.ntmps73
  have p7 := HP0.out.cell (i := 7) rfl
  have p8 := HP0.out.cell (i := 8) rfl
  have p9 := HP0.out.cell (i := 9) rfl
  go_wp2_with fail
  rw [HW.out]
  clear HW
  clear p7 p8 p9
  refine (szState_R _ p.b _ _ h0 h1 ⟨_, rfl, (H7.out.under HB0.out).isI⟩).mono ?_
  rintro e w1 ⟨⟨r1, rfl, hr⟩, hb⟩
  have HB1 : Hid (Below w.heap.size w w1) := HB0.out.trans (hb.mono HB0.out.size)
  have HP1 : Hid (Bk w1 w.heap.size 96 #[.int .i64 p.e.t, .int .i64 p.e.s, .int .i64 p.e.q, .int .i64 p.e.d, .int .i64 p.e.k, .int .i64 p.e.v, .int .i64 p.e.g, u7, .int .i64 p.b.q, .int .i64 p.b.d, u10, u11]) := HP0.out.below hb
  clear hb
  rcases hr with rfl | ⟨r10, hr⟩
  · go_wp2
    go_ret
    exact ⟨⟨_, rfl, .inl rfl⟩, HB1.out⟩
  have r11 : r1 ≤ 1048576 := by omega
  have r12 : ¬ (r1 < 0) := by omega
  have HR1 : Hid (r1 + ((intsD p.b.r).wt : Int) = left) := hr
  clear hr
  have p10 := HP1.out.cell (i := 10) rfl
  go_wp2_with fail
  clear p10
  refine (sz_evs _ p.s _ _ r10 r11 (H10.out.under HB1.out)).mono ?_
  rintro e w2 ⟨⟨r2, rfl, hr⟩, hb⟩
  have HB2 : Hid (Below w.heap.size w w2) := HB1.out.trans (hb.mono HB1.out.size)
  have HP2 : Hid (Bk w2 w.heap.size 96 #[.int .i64 p.e.t, .int .i64 p.e.s, .int .i64 p.e.q, .int .i64 p.e.d, .int .i64 p.e.k, .int .i64 p.e.v, .int .i64 p.e.g, u7, .int .i64 p.b.q, .int .i64 p.b.d, u10, u11]) := HP1.out.below hb
  clear hb
  rcases hr with rfl | ⟨r20, hr⟩
  · go_wp2
    go_ret
    exact ⟨⟨_, rfl, .inl rfl⟩, HB2.out⟩
  have r21 : r2 ≤ 1048576 := by omega
  have r22 : ¬ (r2 < 0) := by omega
  have HR2 : Hid (r2 + ((evsD p.s).wt : Int) = r1) := hr
  clear hr
  have p11 := HP2.out.cell (i := 11) rfl
  go_wp2_with fail
  clear p11
  refine (sz_ems _ p.x _ _ r20 r21 (H11.out.under HB2.out)).mono ?_
  rintro e w3 ⟨⟨r3, rfl, hr⟩, hb⟩
  have HB3 : Hid (Below w.heap.size w w3) := HB2.out.trans (hb.mono HB2.out.size)
  have HP3 : Hid (Bk w3 w.heap.size 96 #[.int .i64 p.e.t, .int .i64 p.e.s, .int .i64 p.e.q, .int .i64 p.e.d, .int .i64 p.e.k, .int .i64 p.e.v, .int .i64 p.e.g, u7, .int .i64 p.b.q, .int .i64 p.b.d, u10, u11]) := HP2.out.below hb
  clear hb
  rcases hr with rfl | ⟨r30, hr⟩
  · go_wp2
    go_ret
    exact ⟨⟨_, rfl, .inl rfl⟩, HB3.out⟩
  have r31 : r3 ≤ 1048576 := by omega
  have r32 : ¬ (r3 < 0) := by omega
  have HR3 : Hid (r3 + ((emsD p.x).wt : Int) = r2) := hr
  clear hr
  go_wp2
  go_ret
  refine ⟨⟨_, rfl, .inr ⟨r30, ?_⟩⟩, HB3.out⟩
  have := HR1.out
  have := HR2.out
  have := HR3.out
  unfold Ps.wt
  omega
set_option maxHeartbeats 4000000 in
theorem sz_pasts (x : Value) (l : List Ps) (left : Int) (w : World) (h0 : 0 ≤ left) (h1 : left ≤ 1048576) (h : IsD w x (pastsD l)) :
    Calls Try.prog 32 #[x, .int .i64 left] w fun e w' => (∃ r, e = .returned (.int .i64 r) ∧ SzR (pastsD l).wt left r) ∧ Below w.heap.size w w' := by
  obtain ⟨a, cap, rfl, hn1, hn, h⟩ := IsD.parts (c := 12) (n := l.length) h
  have hn2 : l.length ≤ 9223372036854775807 := by unfold maxLen at hn; omega
  clear hn1 hn
  by_cases hp : left - (l.length : Int) < 0
  · go_enter Try.func32, Try.ntmps32
    go_wp2
    go_ret
    exact ⟨⟨_, rfl, .inl rfl⟩, Below.refl _ _⟩
  · have HLF : Hid (0 ≤ left - (l.length : Int)) := (by omega : 0 ≤ left - (l.length : Int))
    go_enter Try.func32, Try.ntmps32
    go_wp2
    go_loopw [5, 1] (fun i z wr => ∃ k : Nat, k ≤ l.length ∧ i = .int .i64 k ∧ Below w.heap.size w wr ∧ ∃ lf : Int, z = .int .i64 lf ∧ 0 ≤ lf ∧ lf + (l.length : Int) + (sumL (fun i => (psAt l i).wt) k : Int) = left) (fun i _ _ => l.length - (intOf i).toNat)
    case atStart => exact ⟨0, Nat.zero_le _, rfl, Below.refl _ _, left - (l.length : Int), rfl, HLF.out, by simp [sumL]⟩
    case round =>
      obtain ⟨k, hk, rfl, hB, lf2, rfl, hz0, hz1⟩ := hrel
      have HZ : Hid (lf2 + (l.length : Int) + (sumL (fun i => (psAt l i).wt) k : Int) = left) := hz1
      have HB : Hid (Below w.heap.size w wr) := hB
      have hz2 : lf2 ≤ 1048576 := by omega
      clear hz1
      by_cases hlt : k < l.length
      · obtain ⟨b, off, rfl, hb, hc⟩ := h.resolve_left (by omega)
        obtain ⟨u7, u10, u11, f0, f1, f2, f3, f4, f5, f6, f7, f8, f9, f10, f11, d7, d10, d11⟩ := pastsD_in (fun j hj => by
          obtain ⟨u, hu, hd⟩ := hc j hj
          exact ⟨u, (hB.cell (p := ⟨b, off + j, none⟩) hb).trans hu, hd.under hB⟩) hlt
        have HD : Hid (IsPast wr (.agg #[.int .i64 (psAt l k).e.t, .int .i64 (psAt l k).e.s, .int .i64 (psAt l k).e.q, .int .i64 (psAt l k).e.d, .int .i64 (psAt l k).e.k, .int .i64 (psAt l k).e.v, .int .i64 (psAt l k).e.g, u7, .int .i64 (psAt l k).b.q, .int .i64 (psAt l k).b.d, u10, u11]) (psAt l k)) := ⟨u7, u10, u11, rfl, d7, d10, d11⟩
        clear h hc hB d7 d10 d11
        go_wp2_with fail
        clear f0 f1 f2 f3 f4 f5 f6 f7 f8 f9 f10 f11
        refine (szPast_any _ (psAt l k) _ _ hz0 hz2 HD.out).mono ?_
        rintro e w2 ⟨⟨r, rfl, hr⟩, hb2⟩
        have HB2 : Hid (Below w.heap.size w w2) := HB.out.trans (hb2.mono HB.out.size)
        clear hb2
        rcases hr with rfl | ⟨r0, hr⟩
        · go_wp2
          go_ret
          exact ⟨⟨_, rfl, .inl rfl⟩, HB2.out⟩
        · have HR : Hid (r + ((psAt l k).wt : Int) = lf2) := hr
          have r2 : ¬ (r < 0) := by omega
          clear hr
          go_wp2
          go_roundw
          case rel => exact ⟨k + 1, by omega, by go_num, HB2.out, r, rfl, r0, by have := HR.out; have := HZ.out; simp only [sumL]; omega⟩
          case measure => simp [intOf]; omega
      · clear h hB
        go_wp2
        go_ret
        obtain rfl : k = l.length := by omega
        exact ⟨⟨_, rfl, .inr ⟨hz0, by rw [pastsD_wt]; have := HZ.out; omega⟩⟩, HB.out⟩
set_option maxHeartbeats 4000000 in
theorem eqPast_same (x y : Value) (p : Ps) (w : World) (hw : p.wt ≤ 1048576) (hx : IsPast w x p) (hy : IsPast w y p) :
    Calls Try.prog 61 #[x, y] w fun e w' => e = .returned (.bool true) ∧ Below w.heap.size w w' := by
  obtain ⟨u7, u10, u11, rfl, h7, h10, h11⟩ := hx
  obtain ⟨v7, v10, v11, rfl, k7, k10, k11⟩ := hy
  have H7 : Hid (IsD w u7 (intsD p.b.r) ∧ IsD w v7 (intsD p.b.r)) := ⟨h7, k7⟩
  have H10 : Hid (IsD w u10 (evsD p.s) ∧ IsD w v10 (evsD p.s)) := ⟨h10, k10⟩
  have H11 : Hid (IsD w u11 (emsD p.x) ∧ IsD w v11 (emsD p.x)) := ⟨h11, k11⟩
  have HS : Hid (p.wt ≤ 1048576) := hw
  clear hw h7 k7 h10 k10 h11 k11
  obtain ⟨W0, hW0⟩ : ∃ W0, (w.alloc (.cells #[.int .i64 p.e.t, .int .i64 p.e.s, .int .i64 p.e.q, .int .i64 p.e.d, .int .i64 p.e.k, .int .i64 p.e.v, .int .i64 p.e.g, u7, .int .i64 p.b.q, .int .i64 p.b.d, u10, u11] 65)).alloc (.cells #[.int .i64 p.e.t, .int .i64 p.e.s, .int .i64 p.e.q, .int .i64 p.e.d, .int .i64 p.e.k, .int .i64 p.e.v, .int .i64 p.e.g, v7, .int .i64 p.b.q, .int .i64 p.b.d, v10, v11] 65) = W0 := ⟨_, rfl⟩
  have HB0 : Hid (Below w.heap.size w W0) := by rw [← hW0]; exact ((Below.refl _ w).alloc (Nat.le_refl _) _).alloc (by simp) _
  have HP0 : Hid (Bk W0 w.heap.size 65 #[.int .i64 p.e.t, .int .i64 p.e.s, .int .i64 p.e.q, .int .i64 p.e.d, .int .i64 p.e.k, .int .i64 p.e.v, .int .i64 p.e.g, u7, .int .i64 p.b.q, .int .i64 p.b.d, u10, u11]) := by rw [← hW0]; exact (Bk.new w _ _).alloc _
  have HQ0 : Hid (Bk W0 (w.heap.size + 1) 65 #[.int .i64 p.e.t, .int .i64 p.e.s, .int .i64 p.e.q, .int .i64 p.e.d, .int .i64 p.e.k, .int .i64 p.e.v, .int .i64 p.e.g, v7, .int .i64 p.b.q, .int .i64 p.b.d, v10, v11]) := by rw [← hW0]; exact Bk.newAt (by simp) _ _
  have HW : Hid ((w.alloc (.cells #[.int .i64 p.e.t, .int .i64 p.e.s, .int .i64 p.e.q, .int .i64 p.e.d, .int .i64 p.e.k, .int .i64 p.e.v, .int .i64 p.e.g, u7, .int .i64 p.b.q, .int .i64 p.b.d, u10, u11] 65)).alloc (.cells #[.int .i64 p.e.t, .int .i64 p.e.s, .int .i64 p.e.q, .int .i64 p.e.d, .int .i64 p.e.k, .int .i64 p.e.v, .int .i64 p.e.g, v7, .int .i64 p.b.q, .int .i64 p.b.d, v10, v11] 65) = W0) := hW0
  clear hW0
  go_enter Try.func61, Try.ntmps61
  have p0 := HP0.out.cell (i := 0) rfl
  have q0 := HQ0.out.cell (i := 0) rfl
  have p1 := HP0.out.cell (i := 1) rfl
  have q1 := HQ0.out.cell (i := 1) rfl
  have p2 := HP0.out.cell (i := 2) rfl
  have q2 := HQ0.out.cell (i := 2) rfl
  have p3 := HP0.out.cell (i := 3) rfl
  have q3 := HQ0.out.cell (i := 3) rfl
  have p4 := HP0.out.cell (i := 4) rfl
  have q4 := HQ0.out.cell (i := 4) rfl
  have p5 := HP0.out.cell (i := 5) rfl
  have q5 := HQ0.out.cell (i := 5) rfl
  have p6 := HP0.out.cell (i := 6) rfl
  have q6 := HQ0.out.cell (i := 6) rfl
  go_wp2_with fail
  rw [HW.out]
  clear HW
  clear p0 q0 p1 q1 p2 q2 p3 q3 p4 q4 p5 q5 p6 q6
  refine (eqEvent_same _ _ _ _ _ _ _ _).mono ?_
  rintro e w1 ⟨rfl, hb⟩
  have HB1 : Hid (Below w.heap.size w w1) := HB0.out.trans (hb.mono HB0.out.size)
  have HP1 : Hid (Bk w1 w.heap.size 65 #[.int .i64 p.e.t, .int .i64 p.e.s, .int .i64 p.e.q, .int .i64 p.e.d, .int .i64 p.e.k, .int .i64 p.e.v, .int .i64 p.e.g, u7, .int .i64 p.b.q, .int .i64 p.b.d, u10, u11]) := HP0.out.below hb
  have HQ1 : Hid (Bk w1 (w.heap.size + 1) 65 #[.int .i64 p.e.t, .int .i64 p.e.s, .int .i64 p.e.q, .int .i64 p.e.d, .int .i64 p.e.k, .int .i64 p.e.v, .int .i64 p.e.g, v7, .int .i64 p.b.q, .int .i64 p.b.d, v10, v11]) := HQ0.out.below hb
  clear hb
  have p7 := HP1.out.cell (i := 7) rfl
  have q7 := HQ1.out.cell (i := 7) rfl
  have p8 := HP1.out.cell (i := 8) rfl
  have q8 := HQ1.out.cell (i := 8) rfl
  have p9 := HP1.out.cell (i := 9) rfl
  have q9 := HQ1.out.cell (i := 9) rfl
  go_wp2_with fail
  clear p7 q7 p8 q8 p9 q9
  refine (eqState_same _ _ p.b _ (by have := HS.out; unfold Ps.wt at this; simp only [ems_wt, evs_wt, ints_wt] at this; omega) ⟨_, rfl, (H7.out.1.under HB1.out).isI⟩ ⟨_, rfl, (H7.out.2.under HB1.out).isI⟩).mono ?_
  rintro e w2 ⟨rfl, hb⟩
  have HB2 : Hid (Below w.heap.size w w2) := HB1.out.trans (hb.mono HB1.out.size)
  have HP2 : Hid (Bk w2 w.heap.size 65 #[.int .i64 p.e.t, .int .i64 p.e.s, .int .i64 p.e.q, .int .i64 p.e.d, .int .i64 p.e.k, .int .i64 p.e.v, .int .i64 p.e.g, u7, .int .i64 p.b.q, .int .i64 p.b.d, u10, u11]) := HP1.out.below hb
  have HQ2 : Hid (Bk w2 (w.heap.size + 1) 65 #[.int .i64 p.e.t, .int .i64 p.e.s, .int .i64 p.e.q, .int .i64 p.e.d, .int .i64 p.e.k, .int .i64 p.e.v, .int .i64 p.e.g, v7, .int .i64 p.b.q, .int .i64 p.b.d, v10, v11]) := HQ1.out.below hb
  clear hb
  have p10 := HP2.out.cell (i := 10) rfl
  have q10 := HQ2.out.cell (i := 10) rfl
  go_wp2_with fail
  clear p10 q10
  refine (eq_evs _ _ p.s _ (by have := HS.out; unfold Ps.wt at this; simp only [ems_wt, evs_wt, ints_wt] at this; omega) (H10.out.1.under HB2.out) (H10.out.2.under HB2.out)).mono ?_
  rintro e w3 ⟨rfl, hb⟩
  have HB3 : Hid (Below w.heap.size w w3) := HB2.out.trans (hb.mono HB2.out.size)
  have HP3 : Hid (Bk w3 w.heap.size 65 #[.int .i64 p.e.t, .int .i64 p.e.s, .int .i64 p.e.q, .int .i64 p.e.d, .int .i64 p.e.k, .int .i64 p.e.v, .int .i64 p.e.g, u7, .int .i64 p.b.q, .int .i64 p.b.d, u10, u11]) := HP2.out.below hb
  have HQ3 : Hid (Bk w3 (w.heap.size + 1) 65 #[.int .i64 p.e.t, .int .i64 p.e.s, .int .i64 p.e.q, .int .i64 p.e.d, .int .i64 p.e.k, .int .i64 p.e.v, .int .i64 p.e.g, v7, .int .i64 p.b.q, .int .i64 p.b.d, v10, v11]) := HQ2.out.below hb
  clear hb
  have p11 := HP3.out.cell (i := 11) rfl
  have q11 := HQ3.out.cell (i := 11) rfl
  go_wp2_with fail
  clear p11 q11
  refine (eq_ems _ _ p.x _ (by have := HS.out; unfold Ps.wt at this; simp only [ems_wt, evs_wt, ints_wt] at this; omega) (H11.out.1.under HB3.out) (H11.out.2.under HB3.out)).mono ?_
  rintro e w4 ⟨rfl, hb⟩
  have HB4 : Hid (Below w.heap.size w w4) := HB3.out.trans (hb.mono HB3.out.size)
  have HP4 : Hid (Bk w4 w.heap.size 65 #[.int .i64 p.e.t, .int .i64 p.e.s, .int .i64 p.e.q, .int .i64 p.e.d, .int .i64 p.e.k, .int .i64 p.e.v, .int .i64 p.e.g, u7, .int .i64 p.b.q, .int .i64 p.b.d, u10, u11]) := HP3.out.below hb
  have HQ4 : Hid (Bk w4 (w.heap.size + 1) 65 #[.int .i64 p.e.t, .int .i64 p.e.s, .int .i64 p.e.q, .int .i64 p.e.d, .int .i64 p.e.k, .int .i64 p.e.v, .int .i64 p.e.g, v7, .int .i64 p.b.q, .int .i64 p.b.d, v10, v11]) := HQ3.out.below hb
  clear hb
  go_wp2
  go_ret
  exact ⟨rfl, HB4.out⟩
end Go.Proofs.Ytglmdocokfnmcaa

