/- Both Saved. -/
import Derived.Test.YtnlhcdchmgfipaaGreatExactKernelOkG24
namespace Go.Proofs.YtnlhcdchmgfipaaGreat
open Go.RowKit
/- How much is kept: a state, and all that was sent, for each. -/
def keptN (p : Pa) (k : Nat) : Nat := sumL (fun i => 1 + (psAt p.p i).s.length) k
noncomputable def Pa.saved (p : Pa) : Int := if p.ok = true then (keptN p p.p.length : Int) else 0
theorem sumL_split (L : Nat → Nat) : ∀ n, sumL (fun i => 1 + L i) n = n + sumL L n
  | 0 => rfl
  | n + 1 => by simp only [sumL]; rw [sumL_split L n]; omega
theorem kept_le {p : Pa} (hw : p.wt ≤ 1048576) {k : Nat} (hk : k ≤ p.p.length) : keptN p k ≤ 1048576 := by
  have h1 := sumL_mono (fun i => 1 + (psAt p.p i).s.length) hk
  have h2 := pastsD_wt p.p
  have h3 : sumL (fun i => (psAt p.p i).s.length) p.p.length ≤ sumL (fun i => (psAt p.p i).wt) p.p.length := sumL_le (fun j _ => by unfold Ps.wt; simp only [ints_wt, evs_wt, ems_wt]; omega)
  have h4 := sumL_split (fun i => (psAt p.p i).s.length) p.p.length
  unfold Pa.wt at hw
  unfold keptN
  omega
set_option maxRecDepth 100000 in
set_option maxHeartbeats 8000000 in
theorem sSaved (x : Value) (p : Pa) (w : World) (hw : p.wt ≤ 1048576) (h : IsPart w x p) :
    Calls Tryz.prog 79 #[x] w fun e w' => e = .returned (.int .i64 p.saved) ∧ Below w.heap.size w w' := by
  have HI : Hid (IsPart w x p) := h
  have HWT : Hid (p.wt ≤ 1048576) := hw
  obtain ⟨v1, v4, v5, v6, rfl, h1, h4, h5, h6⟩ := h
  have hpl : p.p.length ≤ 1048576 := by have := pastsD_wt p.p; unfold Pa.wt at hw; omega
  obtain ⟨pa, pc, rfl, _, _, h4⟩ := IsD.parts (c := 12) (n := p.p.length) h4
  have H4 : Hid (p.p.length = 0 ∨ ∃ b off, pa = some ⟨b, off, none⟩ ∧ b < w.heap.size ∧ ∀ j, j < p.p.length * 12 → ∃ u, w.cell? ⟨b, off + j, none⟩ = some u ∧ IsD w u (pastsD_f p.p j)) := h4
  clear h1 h4 h5 h6 hw
  have HK : Hid (∀ k, k ≤ p.p.length → keptN p k ≤ 1048576) := fun k hk => kept_le HWT.out hk
  obtain ⟨W0, hW0⟩ : ∃ W0, w.alloc (.cells #[.int .i64 p.n, v1, .int .i64 p.st.q, .int .i64 p.st.d, .slice pa p.p.length pc, v5, v6] 88) = W0 := ⟨_, rfl⟩
  have HB0 : Hid (Below w.heap.size w W0) := by rw [← hW0]; exact (Below.refl _ w).alloc (Nat.le_refl _) _
  have HP0 : Hid (Bk W0 w.heap.size 88 #[.int .i64 p.n, v1, .int .i64 p.st.q, .int .i64 p.st.d, .slice pa p.p.length pc, v5, v6]) := by rw [← hW0]; exact Bk.new w _ _
  have p0 := HP0.out.cell (i := 0) rfl
  have p1 := HP0.out.cell (i := 1) rfl
  have p2 := HP0.out.cell (i := 2) rfl
  have p3 := HP0.out.cell (i := 3) rfl
  have p4 := HP0.out.cell (i := 4) rfl
  have p5 := HP0.out.cell (i := 5) rfl
  have p6 := HP0.out.cell (i := 6) rfl
  go_enter Tryz.func79, Tryz.ntmps79
  go_wp2_with fail
  clear hW0 p0 p1 p2 p3 p4 p5 p6
  refine (sPartOk_is _ p _ HWT.out (HI.out.under HB0.out)).mono ?_
  rintro e w1 ⟨rfl, hb⟩
  have HB1 : Hid (Below w.heap.size w w1) := HB0.out.trans (hb.mono HB0.out.size)
  have HP1 : Hid (Bk w1 w.heap.size 88 #[.int .i64 p.n, v1, .int .i64 p.st.q, .int .i64 p.st.d, .slice pa p.p.length pc, v5, v6]) := HP0.out.below hb
  clear hb
  cases hok : p.ok
  · have HR : Hid (p.saved = 0) := by show p.saved = 0; unfold Pa.saved; rw [hok]; rfl
    clear hok
    go_wp2
    go_ret
    exact ⟨ret_int HR.out.symm, HB1.out⟩
  have HR : Hid (p.saved = (keptN p p.p.length : Int)) := by show p.saved = _; unfold Pa.saved; rw [hok]; rfl
  clear hok
  go_wp2
  go_loop [4, 3] (fun i z => ∃ k : Nat, k ≤ p.p.length ∧ i = .int .i64 k ∧ z = .int .i64 (keptN p k : Int)) (fun i _ => p.p.length - (intOf i).toNat)
  case atStart => exact ⟨0, Nat.zero_le _, rfl, by simp [keptN, sumL]⟩
  case round =>
    obtain ⟨k, hk, rfl, rfl⟩ := hrel
    have q4 := HP1.out.cell (i := 4) rfl
    by_cases hlt : k < p.p.length
    · obtain ⟨b, off, rfl, hb, hc⟩ := H4.out.resolve_left (by omega)
      obtain ⟨ua, ub, uc, f0, f1, f2, f3, f4, f5, f6, f7, f8, f9, f10, f11, d7, d10, d11⟩ := pastsD_in (l := p.p) (n := p.p.length) (fun j hj => by
        obtain ⟨u, hu, hd⟩ := hc j hj
        exact ⟨u, (HB1.out.cell (p := ⟨b, off + j, none⟩) hb).trans hu, hd.under HB1.out⟩) hlt
      obtain ⟨a10, c10, rfl, _⟩ := IsD.len (c := 7) (n := (psAt p.p k).s.length) d10
      have hk1 := HK.out (k + 1) (by omega)
      have HE : Hid (keptN p (k + 1) = keptN p k + (1 + (psAt p.p k).s.length)) := rfl
      have hk2 : keptN p k + (1 + (psAt p.p k).s.length) ≤ 1048576 := by have := HE.out; omega
      have hki : (k : Int) < (p.p.length : Int) := by omega
      clear hc d7 d10 d11 hk1
      generalize hg : keptN p k = kk at hk2
      have HG : Hid (keptN p k = kk) := hg
      clear hg
      go_wp2
      go_round
      case rel => exact ⟨k + 1, by omega, by go_num, by rw [show (kk : Int) + 1 + ((psAt p.p k).s.length : Int) = (keptN p (k + 1) : Int) from by have h8 := HE.out; have h9 := HG.out; omega]⟩
      case measure => simp [intOf]; omega
    · have he : k = p.p.length := by omega
      have HE : Hid (keptN p k = keptN p p.p.length) := by rw [he]; exact rfl
      go_wp2
      go_ret
      exact ⟨ret_int (by first | rw [HR.out, HE.out] | rw [HR.out]), HB1.out⟩
set_option maxRecDepth 100000 in
set_option maxHeartbeats 8000000 in
theorem iSaved (x : Value) (p : Pa) (w : World) (hw : p.wt ≤ 1048576) (h : IsPart w x p) :
    Calls Tryz.prog 80 #[x] w fun e w' => e = .returned (.int .i64 p.saved) ∧ Below w.heap.size w w' := by
  have HI : Hid (IsPart w x p) := h
  have HWT : Hid (p.wt ≤ 1048576) := hw
  obtain ⟨v1, v4, v5, v6, rfl, h1, h4, h5, h6⟩ := h
  have hpl : p.p.length ≤ 1048576 := by have := pastsD_wt p.p; unfold Pa.wt at hw; omega
  obtain ⟨pa, pc, rfl, _, _, h4⟩ := IsD.parts (c := 12) (n := p.p.length) h4
  have H4 : Hid (p.p.length = 0 ∨ ∃ b off, pa = some ⟨b, off, none⟩ ∧ b < w.heap.size ∧ ∀ j, j < p.p.length * 12 → ∃ u, w.cell? ⟨b, off + j, none⟩ = some u ∧ IsD w u (pastsD_f p.p j)) := h4
  clear h1 h4 h5 h6 hw
  have HK : Hid (∀ k, k ≤ p.p.length → keptN p k ≤ 1048576) := fun k hk => kept_le HWT.out hk
  obtain ⟨W0, hW0⟩ : ∃ W0, w.alloc (.cells #[.int .i64 p.n, v1, .int .i64 p.st.q, .int .i64 p.st.d, .slice pa p.p.length pc, v5, v6] 88) = W0 := ⟨_, rfl⟩
  have HB0 : Hid (Below w.heap.size w W0) := by rw [← hW0]; exact (Below.refl _ w).alloc (Nat.le_refl _) _
  have HP0 : Hid (Bk W0 w.heap.size 88 #[.int .i64 p.n, v1, .int .i64 p.st.q, .int .i64 p.st.d, .slice pa p.p.length pc, v5, v6]) := by rw [← hW0]; exact Bk.new w _ _
  have p0 := HP0.out.cell (i := 0) rfl
  have p1 := HP0.out.cell (i := 1) rfl
  have p2 := HP0.out.cell (i := 2) rfl
  have p3 := HP0.out.cell (i := 3) rfl
  have p4 := HP0.out.cell (i := 4) rfl
  have p5 := HP0.out.cell (i := 5) rfl
  have p6 := HP0.out.cell (i := 6) rfl
  go_enter Tryz.func80, Tryz.ntmps80
  go_wp2_with fail
  clear hW0 p0 p1 p2 p3 p4 p5 p6
  refine (iPartOk_is _ p _ HWT.out (HI.out.under HB0.out)).mono ?_
  rintro e w1 ⟨rfl, hb⟩
  have HB1 : Hid (Below w.heap.size w w1) := HB0.out.trans (hb.mono HB0.out.size)
  have HP1 : Hid (Bk w1 w.heap.size 88 #[.int .i64 p.n, v1, .int .i64 p.st.q, .int .i64 p.st.d, .slice pa p.p.length pc, v5, v6]) := HP0.out.below hb
  clear hb
  cases hok : p.ok
  · have HR : Hid (p.saved = 0) := by show p.saved = 0; unfold Pa.saved; rw [hok]; rfl
    clear hok
    go_wp2
    go_ret
    exact ⟨ret_int HR.out.symm, HB1.out⟩
  have HR : Hid (p.saved = (keptN p p.p.length : Int)) := by show p.saved = _; unfold Pa.saved; rw [hok]; rfl
  clear hok
  have q4 := HP1.out.cell (i := 4) rfl
  have hs1 : w.heap.size < w1.heap.size := HP1.out.lt
  go_wp2
  clear q4
  go_loopw [15, 3] (fun i z wr => ∃ k : Nat, k ≤ p.p.length ∧ i = .int .i64 k ∧ z = .int .i64 ((p.p.length : Int) + (sumL (fun i => (psAt p.p i).s.length) k : Int)) ∧ Below w1.heap.size w1 wr) (fun i _ _ => p.p.length - (intOf i).toNat)
  case atStart => exact ⟨0, Nat.zero_le _, rfl, by simp [sumL], Below.refl _ _⟩
  case round =>
    obtain ⟨k, hk, rfl, rfl, hB⟩ := hrel
    have HBr : Hid (Below w1.heap.size w1 wr) := hB
    have HBw : Hid (Below w.heap.size w wr) := HB1.out.trans (hB.mono (by omega))
    have hsr : w1.heap.size ≤ wr.heap.size := hB.size
    clear hB
    by_cases hlt : k < p.p.length
    · obtain ⟨b, off, hpa, hb, hc⟩ := H4.out.resolve_left (by omega)
      subst hpa
      obtain ⟨ua, ub, uc, f0, f1, f2, f3, f4, f5, f6, f7, f8, f9, f10, f11, d7, d10, d11⟩ := pastsD_in (l := p.p) (n := p.p.length) (fun j hj => by
        obtain ⟨u, hu, hd⟩ := hc j hj
        exact ⟨u, (HBw.out.cell (p := ⟨b, off + j, none⟩) hb).trans hu, hd.under HBw.out⟩) hlt
      obtain ⟨a7, c7, rfl, _⟩ := IsD.len (c := 1) (n := (psAt p.p k).b.r.length) d7
      obtain ⟨a10, c10, rfl, _⟩ := IsD.len (c := 7) (n := (psAt p.p k).s.length) d10
      obtain ⟨a11, c11, rfl, _⟩ := IsD.len (c := 3) (n := (psAt p.p k).x.length) d11
      obtain ⟨W1, hW1⟩ : ∃ W1, wr.alloc (.cells #[.int .i64 (psAt p.p k).e.t, .int .i64 (psAt p.p k).e.s, .int .i64 (psAt p.p k).e.q, .int .i64 (psAt p.p k).e.d, .int .i64 (psAt p.p k).e.k, .int .i64 (psAt p.p k).e.v, .int .i64 (psAt p.p k).e.g, .slice a7 (psAt p.p k).b.r.length c7, .int .i64 (psAt p.p k).b.q, .int .i64 (psAt p.p k).b.d, .slice a10 (psAt p.p k).s.length c10, .slice a11 (psAt p.p k).x.length c11] 147) = W1 := ⟨_, rfl⟩
      have HB2 : Hid (Below wr.heap.size wr W1) := by rw [← hW1]; exact (Below.refl _ wr).alloc (Nat.le_refl _) _
      have HX : Bk W1 wr.heap.size 147 #[.int .i64 (psAt p.p k).e.t, .int .i64 (psAt p.p k).e.s, .int .i64 (psAt p.p k).e.q, .int .i64 (psAt p.p k).e.d, .int .i64 (psAt p.p k).e.k, .int .i64 (psAt p.p k).e.v, .int .i64 (psAt p.p k).e.g, .slice a7 (psAt p.p k).b.r.length c7, .int .i64 (psAt p.p k).b.q, .int .i64 (psAt p.p k).b.d, .slice a10 (psAt p.p k).s.length c10, .slice a11 (psAt p.p k).x.length c11] := by rw [← hW1]; exact Bk.new _ _ _
      have x10 := HX.cell (i := 10) rfl
      have hk1 := HK.out (k + 1) (by omega)
      have hki : (k : Int) < (p.p.length : Int) := by omega
      have hk9 := HK.out p.p.length (Nat.le_refl _)
      have h5 := sumL_split (fun i => (psAt p.p i).s.length) p.p.length
      have h6 := sumL_mono (fun i => (psAt p.p i).s.length) (show k + 1 ≤ p.p.length from hlt)
      obtain ⟨kk, hg⟩ : ∃ kk, sumL (fun i => (psAt p.p i).s.length) k = kk := ⟨_, rfl⟩
      have HG : Hid (sumL (fun i => (psAt p.p i).s.length) k = kk) := hg
      have hk2 : p.p.length + (kk + (psAt p.p k).s.length) ≤ 1048576 := by
        have h7 : sumL (fun i => (psAt p.p i).s.length) (k + 1) = sumL (fun i => (psAt p.p i).s.length) k + (psAt p.p k).s.length := rfl
        unfold keptN at hk9
        omega
      rw [hg]
      clear hc d7 d10 d11 HX hk1 hk9 h5 h6 hg
      go_wp2
      go_roundw
      case rel => exact ⟨k + 1, by omega, by go_num, by rw [show (p.p.length : Int) + (kk : Int) + ((psAt p.p k).s.length : Int) = (p.p.length : Int) + (sumL (fun i => (psAt p.p i).s.length) (k + 1) : Int) from (by have h7 : sumL (fun i => (psAt p.p i).s.length) (k + 1) = sumL (fun i => (psAt p.p i).s.length) k + (psAt p.p k).s.length := rfl; have h9 := HG.out; omega)], HBr.out.trans (HB2.out.mono hsr)⟩
      case measure => simp [intOf]; omega
    · have he : k = p.p.length := by omega
      have HE : Hid ((p.p.length : Int) + (sumL (fun i => (psAt p.p i).s.length) k : Int) = (keptN p p.p.length : Int)) := by
        rw [he]
        show (p.p.length : Int) + _ = ((sumL (fun i => 1 + (psAt p.p i).s.length) p.p.length : Nat) : Int)
        rw [sumL_split]
        omega
      go_wp2
      go_ret
      exact ⟨ret_int (by rw [HR.out, HE.out]), HBw.out⟩
end Go.Proofs.YtnlhcdchmgfipaaGreat
