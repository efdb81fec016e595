/- The specification's ModelRead. -/
import Derived.Test.YthjabkfnmcodbaaExactModelReadG19
import Derived.Test.YthjabkfnmcodbaaExactModelReadLMByS
import Derived.Test.YthjabkfnmcodbaaExactModelReadLMOkS
import Derived.Deep.CutBlock
import Derived.Deep.RegionLaw
namespace Go.Proofs.Ythjabkfnmcodbaa
open Go.RowKit
theorem Src8.of {w w' : World} {C : Nat} {x : Value} {l : List UInt8} (h : By.IsI w x l) (hb : Below w.heap.size w w') (hC : w.heap.size ≤ C) : Src8 w' C x l := by
  obtain ⟨a, cap, rfl, _, _, h⟩ := h
  refine ⟨a, cap, rfl, h.imp id ?_⟩
  rintro ⟨b, off, rfl, hr⟩
  exact ⟨b, off, rfl, by have := hr.1; omega, hr.below hb hr.1⟩
theorem Cu.drew {w : World} {C : Nat} {x : Value} {σ : Option Nat} (h : Cu w C x σ) : Cu w.drew C x σ := h
theorem turns_below {B C : Nat} {a w w' : World} (h : Below B a w) (ht : Turns (fun k => k = C) w w') (hC : B ≤ C) (hB : B ≤ w.heap.size) : Below B a w' := h.trans (ht.to_below (fun k e => by omega) hB)
set_option maxRecDepth 100000 in
set_option maxHeartbeats 16000000 in
theorem sReadM (x : Value) (l : List UInt8) (w : World) (hl : l.length ≤ 1048576) (hx : By.IsI w x l) :
    Calls Try.prog 22 #[x] w fun e w' => ∃ y, e = .returned (.tuple #[y, .bool (readOk l)]) ∧ IsM w' y (readM l) ∧ Below w.heap.size w w' := by
  have HX : Hid (By.IsI w x l) := hx
  obtain ⟨a, cap, rfl, _, _, _⟩ := hx
  obtain ⟨C, hC⟩ : ∃ C, C = w.heap.size + 1 := ⟨_, rfl⟩
  obtain ⟨W0, hW0⟩ : ∃ W0, (w.alloc (.cells Z6 34)).alloc (.cells #[.slice a l.length cap, .int .i64 0, .bool false] 81) = W0 := ⟨_, rfl⟩
  have HB0 : Hid (Below w.heap.size w W0) := by rw [← hW0]; exact ((Below.refl _ w).alloc (Nat.le_refl _) _).alloc (by simp) _
  have HR0 : Hid (Bk W0 w.heap.size 34 Z6) := by rw [← hW0]; exact (Bk.new w _ _).alloc _
  have HC0 : Hid (Cu W0 C (.slice a l.length cap) (some 0)) := by
    rw [← hW0, hC]
    exact ⟨0, Bk.newAt (by simp) _ _, fun p e => by cases e; rfl⟩
  have HW0 : Hid ((w.alloc (.cells Z6 34)).alloc (.cells #[.slice a l.length cap, .int .i64 0, .bool false] 81) = W0) := hW0
  have HCe : Hid (C = w.heap.size + 1) := hC
  have hCw : w.heap.size < C := by omega
  have H0 : Hid (∀ p, some 0 = some p → p ≤ l.length) := fun p e => by cases e; omega
  clear hW0 hC
  go_enter Try.func22, Try.ntmps22
  go_wp2_with fail
  rw [HW0.out, ← HCe.out]
  clear HW0
  refine (get1_any C _ l (some 0) _ hl H0.out HC0.out (Src8.of HX.out HB0.out (by omega))).mono ?_
  rintro e w1 ⟨rfl, hc1, ht1⟩
  obtain ⟨σ1, hσ1⟩ : ∃ σ, σ = nxt l 1 (some 0) := ⟨_, rfl⟩
  obtain ⟨nL, hnL⟩ : ∃ z, z = nLps l := ⟨_, rfl⟩
  rw [show val1 l (some 0) = nL from hnL.symm]
  have HNL : Hid (nL = nLps l) := hnL
  have Hs1 : Hid (∀ p, σ1 = some p → p ≤ l.length) := fun p e => nxt_le (hσ1 ▸ e)
  have HE1 : Hid (σ1 = nxt l 1 (some 0)) := hσ1
  obtain ⟨V1, hV1⟩ : ∃ V, w1.alloc (.cells #[.int .i64 nL, .int .i64 0, .slice none 0 0, .slice none 0 0, .slice none 0 0, .int .i64 0] 34) = V := ⟨_, rfl⟩
  have hbw1 := turns_below HB0.out ht1 (by omega) HB0.out.size
  have HM1 : Hid (MB V1 w.heap.size w.heap.size w1.heap.size ⟨nL, 0, [], [], [], 0⟩ (.slice none 0 0) (.slice none 0 0) (.slice none 0 0) []) := hV1 ▸ MB.new (by have := HR0.out.lt; have := ht1.size; omega) ((HR0.out.turns ht1 (by omega)).alloc _) (Bk.new _ _ _)
  have HC1 : Hid (Cu V1 C (.slice a l.length cap) σ1) := hV1 ▸ (hσ1 ▸ hc1 : Cu w1 C (.slice a l.length cap) σ1).alloc _
  have HB1 : Hid (Below w.heap.size w V1) := hV1 ▸ hbw1.alloc hbw1.size _
  have HV1 : Hid (w1.alloc (.cells #[.int .i64 nL, .int .i64 0, .slice none 0 0, .slice none 0 0, .slice none 0 0, .int .i64 0] 34) = V1) := hV1
  have hMb : w.heap.size < w1.heap.size := by have := HR0.out.lt; have := ht1.size; omega
  obtain ⟨Mb, hMbe⟩ : ∃ Mb, Mb = w1.heap.size := ⟨_, rfl⟩
  rw [← hMbe] at HM1 hMb
  have HMe : Hid (Mb = w1.heap.size) := hMbe
  clear hc1 ht1 hσ1 hnL hV1 HB0 HR0 HC0 hMbe
  go_wp2_with fail
  rw [HV1.out, ← HMe.out]
  clear HV1 HMe
  refine (get1_any C _ l σ1 _ hl Hs1.out HC1.out (Src8.of HX.out HB1.out (by omega))).mono ?_
  rintro e w2 ⟨rfl, hc, ht⟩
  obtain ⟨σ2, hn⟩ : ∃ σ, σ = nxt l 1 σ1 := ⟨_, rfl⟩
  obtain ⟨nK, hz⟩ : ∃ z, z = val1 l σ1 := ⟨_, rfl⟩
  rw [← hz]
  have HZ2 : Hid (nK = val1 l σ1) := hz
  have Hs2 : Hid (∀ p, σ2 = some p → p ≤ l.length) := fun p e => nxt_le (hn ▸ e)
  have HE2 : Hid (σ2 = nxt l 1 σ1) := hn
  have hm := (HM1.out).kept HC1.out.bk.choose_spec (by decide) (by decide) (by decide) (by decide) (by decide) ht
  have hc' : Cu w2 C (.slice a l.length cap) σ2 := hn ▸ hc
  have hb := turns_below HB1.out ht (by omega) HB1.out.size
  have HM2 : Hid (MB w2 w.heap.size w.heap.size Mb ⟨nL, 0, [], [], [], 0⟩ (.slice none 0 0) (.slice none 0 0) (.slice none 0 0) []) := hm
  have HC2 : Hid (Cu w2 C (.slice a l.length cap) σ2) := hc'
  have HB2 : Hid (Below w.heap.size w w2) := hb
  clear hc ht hn hz hm hc' hb HM1 HC1 HB1 Hs1
  go_wp2_with fail
  refine (get1_any C _ l σ2 _ hl Hs2.out HC2.out (Src8.of HX.out HB2.out (by omega))).mono ?_
  rintro e w3 ⟨rfl, hc, ht⟩
  obtain ⟨σ3, hn⟩ : ∃ σ, σ = nxt l 1 σ2 := ⟨_, rfl⟩
  obtain ⟨nS, hz⟩ : ∃ z, z = val1 l σ2 := ⟨_, rfl⟩
  rw [← hz]
  have HZ3 : Hid (nS = val1 l σ2) := hz
  have Hs3 : Hid (∀ p, σ3 = some p → p ≤ l.length) := fun p e => nxt_le (hn ▸ e)
  have HE3 : Hid (σ3 = nxt l 1 σ2) := hn
  have hm := (HM2.out).kept HC2.out.bk.choose_spec (by decide) (by decide) (by decide) (by decide) (by decide) ht
  have hc' : Cu w3 C (.slice a l.length cap) σ3 := hn ▸ hc
  have hb := turns_below HB2.out ht (by omega) HB2.out.size
  have HM3 : Hid (MB w3 w.heap.size w.heap.size Mb ⟨nL, 0, [], [], [], 0⟩ (.slice none 0 0) (.slice none 0 0) (.slice none 0 0) []) := hm
  have HC3 : Hid (Cu w3 C (.slice a l.length cap) σ3) := hc'
  have HB3 : Hid (Below w.heap.size w w3) := hb
  clear hc ht hn hz hm hc' hb HM2 HC2 HB2 Hs2
  go_wp2_with fail
  refine (get2_any C _ l σ3 _ hl Hs3.out HC3.out (Src8.of HX.out HB3.out (by omega))).mono ?_
  rintro e w4 ⟨rfl, hc, ht⟩
  obtain ⟨σ4, hn⟩ : ∃ σ, σ = nxt l 2 σ3 := ⟨_, rfl⟩
  obtain ⟨zz, hz⟩ : ∃ z, z = val2 l σ3 := ⟨_, rfl⟩
  rw [← hz]
  have HZ4 : Hid (zz = val2 l σ3) := hz
  have Hs4 : Hid (∀ p, σ4 = some p → p ≤ l.length) := fun p e => nxt_le (hn ▸ e)
  have HE4 : Hid (σ4 = nxt l 2 σ3) := hn
  have hm := (HM3.out).kept HC3.out.bk.choose_spec (by decide) (by decide) (by decide) (by decide) (by decide) ht
  have hc' : Cu w4 C (.slice a l.length cap) σ4 := hn ▸ hc
  have hb := turns_below HB3.out ht (by omega) HB3.out.size
  have q4 := hm.b.cell (i := 5) rfl
  have f4 := hm.b.free 5
  have HM4 : Hid (MB (w4.setCell ⟨Mb, 5, none⟩ (.int .i64 zz)) w.heap.size w.heap.size Mb ⟨nL, 0, [], [], [], zz⟩ (.slice none 0 0) (.slice none 0 0) (.slice none 0 0) []) := hm.putN zz
  have HC4 : Hid (Cu (w4.setCell ⟨Mb, 5, none⟩ (.int .i64 zz)) C (.slice a l.length cap) σ4) := hc'.other (fun e => hm.b.neq hc'.bk.choose_spec (by decide) e.symm) _ _
  have HB4 : Hid (Below w.heap.size w (w4.setCell ⟨Mb, 5, none⟩ (.int .i64 zz))) := hb.setCell (p := ⟨Mb, 5, none⟩) (by show w.heap.size ≤ Mb; omega) _
  clear hc ht hn hz hm hc' hb HM3 HC3 HB3 Hs3
  go_wp2_with fail
  clear q4 f4
  generalize w4.setCell ⟨Mb, 5, none⟩ (.int .i64 zz) = V4 at HM4 HC4 HB4 ⊢
  refine (get2_any C _ l σ4 _ hl Hs4.out HC4.out (Src8.of HX.out HB4.out (by omega))).mono ?_
  rintro e w5 ⟨rfl, hc, ht⟩
  obtain ⟨σ5, hn⟩ : ∃ σ, σ = nxt l 2 σ4 := ⟨_, rfl⟩
  obtain ⟨ss, hz⟩ : ∃ z, z = val2 l σ4 := ⟨_, rfl⟩
  rw [← hz]
  have HZ5 : Hid (ss = val2 l σ4) := hz
  have Hs5 : Hid (∀ p, σ5 = some p → p ≤ l.length) := fun p e => nxt_le (hn ▸ e)
  have HE5 : Hid (σ5 = nxt l 2 σ4) := hn
  have hm := (HM4.out).kept HC4.out.bk.choose_spec (by decide) (by decide) (by decide) (by decide) (by decide) ht
  have hc' : Cu w5 C (.slice a l.length cap) σ5 := hn ▸ hc
  have hb := turns_below HB4.out ht (by omega) HB4.out.size
  have q5 := hm.b.cell (i := 1) rfl
  have f5 := hm.b.free 1
  obtain ⟨V5, hV5⟩ : ∃ V, w5.setCell ⟨Mb, 1, none⟩ (.int .i64 ss) = V := ⟨_, rfl⟩
  have HM5 : Hid (MB V5 w.heap.size w.heap.size Mb ⟨nL, ss, [], [], [], zz⟩ (.slice none 0 0) (.slice none 0 0) (.slice none 0 0) []) := hV5 ▸ hm.putS ss
  have HC5 : Hid (Cu V5 C (.slice a l.length cap) σ5) := hV5 ▸ hc'.other (fun e => hm.b.neq hc'.bk.choose_spec (by decide) e.symm) _ _
  have HB5 : Hid (Below w.heap.size w V5) := hV5 ▸ hb.setCell (p := ⟨Mb, 1, none⟩) (by show w.heap.size ≤ Mb; omega) _
  have c2 := HC5.out.flag
  have m0 := HM5.out.b.cell (i := 0) rfl
  have HS5 : Hid (σ5 = s5 l) := (by rw [HE5.out, HE4.out, HE3.out, HE2.out, HE1.out]; rfl : σ5 = s5 l)
  have HMD : Hid (∀ i h e, (⟨nL, ss, i, h, e, zz⟩ : Md) = ⟨(rdM l).n, (rdM l).s, i, h, e, (rdM l).z⟩) := fun i h e => by
    rw [HNL.out, HZ5.out, HZ4.out, HE4.out, HE3.out, HE2.out, HE1.out]; rfl
  have HK : Hid (nK = nKin l) := (by rw [HZ2.out, HE1.out]; rfl : nK = nKin l)
  have HSt : Hid (nS = nSta l) := (by rw [HZ3.out, HE2.out, HE1.out]; rfl : nS = nSta l)
  have hL := val1_low l (some 0)
  have hK := val1_low l (nxt l 1 (some 0))
  have hSt := val1_low l (nxt l 1 (nxt l 1 (some 0)))
  obtain ⟨kL, hkL⟩ : ∃ k : Nat, nL = (k : Int) := ⟨nL.toNat, by have := HNL.out; unfold nLps at this; omega⟩
  obtain ⟨kK, hkK⟩ : ∃ k : Nat, nK = (k : Int) := ⟨nK.toNat, by have := HK.out; unfold nKin at this; omega⟩
  obtain ⟨kS, hkS⟩ : ∃ k : Nat, nS = (k : Int) := ⟨nS.toNat, by have := HSt.out; unfold nSta at this; omega⟩
  have hL9 : kL ≤ 255 := by have := HNL.out; unfold nLps at this; omega
  have hK9 : kK ≤ 255 := by have := HK.out; unfold nKin at this; omega
  have hS9 : kS ≤ 255 := by have := HSt.out; unfold nSta at this; omega
  have HRI : Hid (rI l = run (fI l) σ5 kL) := (by unfold rI; rw [← HNL.out, ← HS5.out, hkL]; rfl : rI l = run (fI l) σ5 kL)
  have HRH : Hid (rH l = run (fR l) (rI l).2 kK) := (by unfold rH; rw [← HK.out, hkK]; rfl : rH l = run (fR l) (rI l).2 kK)
  have HRE : Hid (rE l = run (fE l) (rH l).2 kS) := (by unfold rE; rw [← HSt.out, hkS]; rfl : rE l = run (fE l) (rH l).2 kS)
  subst hkL hkK hkS
  clear hc ht hn hz hm hc' hb HM4 HC4 HB4 Hs4 hL hK hSt HNL HK HSt HZ5 HZ4 HZ3 HZ2 HE5 HE4 HE3 HE2 HE1 HS5 H0
  obtain ⟨i3, hi3, hiz0, hiz1, hiz2⟩ := info_parts info3
  obtain ⟨i6, hi6, hjz0, hjz1, hjz2⟩ := info_parts infoSS
  obtain ⟨i7, hi7, hez0, hez1, hez2⟩ := info_parts infoEv
  go_upto_block 0 with fail
  clear q5 f5 hV5 c2 m0
  go_cut [8] from 28 (fun u8 wc => ∃ vi, MB wc w.heap.size w.heap.size Mb ⟨(kL : Int), ss, (rI l).1, [], [], zz⟩ vi (.slice none 0 0) (.slice none 0 0) [] ∧ Cu wc C (.slice a l.length cap) (rI l).2 ∧ Below w.heap.size w wc)
  case first =>
    go_wp2_with fail
    go_loopw [8] (fun i wr => ∃ (k : Nat) (vi : Value), k ≤ kL ∧ i = .int .i64 k ∧ MB wr w.heap.size w.heap.size Mb ⟨(kL : Int), ss, (run (fI l) σ5 k).1, [], [], zz⟩ vi (.slice none 0 0) (.slice none 0 0) [] ∧ Cu wr C (.slice a l.length cap) (run (fI l) σ5 k).2 ∧ Below w.heap.size w wr) (fun i _ => kL - (intOf i).toNat)
    case atStart => exact ⟨0, _, Nat.zero_le _, rfl, HM5.out, HC5.out, HB5.out⟩
    case round =>
      clear HM5 HC5 HB5
      obtain ⟨k, vi, hk, rfl, hM, hC, hB⟩ := hrel
      have HM : Hid (MB wr w.heap.size w.heap.size Mb ⟨(kL : Int), ss, (run (fI l) σ5 k).1, [], [], zz⟩ vi (.slice none 0 0) (.slice none 0 0) []) := hM
      have HC : Hid (Cu wr C (.slice a l.length cap) (run (fI l) σ5 k).2) := hC
      have HB : Hid (Below w.heap.size w wr) := hB
      have c2 := hC.flag
      have m0 := hM.b.cell (i := 0) rfl
      have hsz : w.heap.size ≤ wr.heap.size := hB.size
      clear hM hC hB
      by_cases hlt : k < kL
      · have hki : (k : Int) < (kL : Int) := by omega
        cases hp : (run (fI l) σ5 k).2 with
        | none =>
          have HE : Hid (rI l = run (fI l) σ5 k) := HRI.out.trans (run_none hp kL (by omega))
          rw [hp] at c2
          simp only [Option.isNone_none] at c2
          clear hp
          go_wp2
          go_meet
          case rel => exact ⟨vi, by rw [HE.out]; exact HM.out, by rw [HE.out]; exact HC.out, HB.out⟩
        | some p =>
          rw [hp] at c2 HC
          simp only [Option.isNone_some] at c2
          have HE : Hid (run (fI l) σ5 (k + 1) = ((run (fI l) σ5 k).1 ++ [val2 l (some p)], nxt l 2 (some p))) := run_some hp
          have Hp : Hid (∀ r, some p = some r → r ≤ l.length) := fun r e => run_le Hs5.out (fun _ _ _ h => fI_le h) k r (hp.trans e)
          have hlk := run_length (fI l) σ5 k
          generalize (run (fI l) σ5 k).1 = lk at HM HE hlk
          obtain ⟨avi, cvi, hvi⟩ := owns_slice HM.out.i
          have m2 : wr.cell? ⟨Mb, 2, none⟩ = some vi := HM.out.b.cell rfl
          obtain ⟨zv, hzv⟩ : ∃ z, z = val2 l (some p) := ⟨_, rfl⟩
          have HG : Hid (Calls Try.prog 53 #[.pointer (some ⟨C, 0, none⟩), .int .i64 2] wr.drew fun e w' => e = .returned (.int .i64 zv) ∧ Cu w' C (.slice a l.length cap) (nxt l 2 (some p)) ∧ Turns (fun k => k = C) wr.drew w') := hzv ▸ get2_any C _ l (some p) wr.drew hl Hp.out HC.out.drew (Src8.of HX.out HB.out.drew (by omega))
          have HZV : Hid (zv = val2 l (some p)) := hzv
          subst hvi
          clear hp hzv
          go_wp2_with fail
          clear c2 m0
          go_region_law (first | (have hq := HM2; refine step_append_own (w := w2.alloc (.cells #[.int .i64 zv] 3)) rfl (.tmp 42) (.tmp 45) 22 rfl w.heap.size 3 i3 (.int .i64 0) 1 8 Try.underlying22 hi3 hiz0 hiz1 hiz2 rfl (by decide) (.slice avi lk.length cvi) lk.length (intCells lk) rfl (MB.alloc HM2.out _).i ⟨w2.heap.size, 0, none⟩ 1 1 (intCells [zv]) rfl rfl (at_newI w2 zv) (intCells_ones _) (by unfold maxLen; omega) (by omega) (Nat.le_trans hs2 (sza w2 _)) ?_; intro v3 w3 hown3 hgrow3; have k3 : w3.cell? ⟨Mb, 2, none⟩ = some (.slice avi lk.length cvi) := ((MB.alloc HM2.out _).b.turns (grown_turns hgrow3) (owns_ne HM2.out.i HM2.out.b (by decide))).cell rfl; have f3 := ((MB.alloc HM2.out _).b.turns (grown_turns hgrow3) (owns_ne HM2.out.i HM2.out.b (by decide))).free 2; obtain ⟨av3, cv3, hv3⟩ := owns_slice hown3; subst hv3) | (go_simp; go_at_call 53; refine HG.out.mono ?_; rintro e w2 ⟨rfl, hc2, ht2⟩; (try dsimp only); have HM2 : Hid (MB w2 w.heap.size w.heap.size Mb ⟨(kL : Int), ss, lk, [], [], zz⟩ (.slice avi lk.length cvi) (.slice none 0 0) (.slice none 0 0) []) := (HM.out.drew).kept HC.out.drew.bk.choose_spec (by decide) (by decide) (by decide) (by decide) (by decide) ht2; have HC2 : Hid (Cu w2 C (.slice a l.length cap) (nxt l 2 (some p))) := hc2; have HB2 : Hid (Below w.heap.size w w2) := turns_below HB.out.drew ht2 (by omega) hsz; have hs2 : w.heap.size ≤ w2.heap.size := HB2.out.size; have k2 : w2.cell? ⟨Mb, 2, none⟩ = some (.slice avi lk.length cvi) := HM2.out.b.cell rfl; have k2a : (w2.alloc (.cells #[.int .i64 zv] 3)).cell? ⟨Mb, 2, none⟩ = some (.slice avi lk.length cvi) := (MB.alloc HM2.out _).b.cell rfl; clear hc2 ht2))
          all_goals
            have HM3 : Hid (MB (w3.setCell ⟨Mb, 2, none⟩ (.slice av3 (lk.length + 1) cv3)) w.heap.size w.heap.size Mb ⟨(kL : Int), ss, (lk ++ [zv]), [], [], zz⟩ (.slice av3 (lk.length + 1) cv3) (.slice none 0 0) (.slice none 0 0) []) := (MB.alloc HM2.out _).putI hown3 hgrow3
            have HC3 : Hid (Cu (w3.setCell ⟨Mb, 2, none⟩ (.slice av3 (lk.length + 1) cv3)) C (.slice a l.length cap) (nxt l 2 (some p))) := ((HC2.out.alloc _).turns (grown_turns hgrow3) (fun e => owns_ne HM2.out.i HC2.out.bk.choose_spec (by decide) e)).other (fun e => HM2.out.b.neq HC2.out.bk.choose_spec (by decide) e.symm) _ _
            have HB3 : Hid (Below w.heap.size w (w3.setCell ⟨Mb, 2, none⟩ (.slice av3 (lk.length + 1) cv3))) := ((HB2.out.alloc hs2 _).grown hgrow3 (Nat.le_trans hs2 (sza w2 _)) (fun j e => row_ge HM2.out.i e)).setCell (p := ⟨Mb, 2, none⟩) (by show w.heap.size ≤ Mb; omega) _
            clear hown3 hgrow3 k2 k2a k3 f3 m2
            generalize w3.setCell ⟨Mb, 2, none⟩ (.slice av3 (lk.length + 1) cv3) = V3 at HM3 HC3 HB3 ⊢
            go_wp2
            go_roundw
            case rel => exact ⟨k + 1, _, by omega, by go_num, by rw [HE.out, ← HZV.out]; exact HM3.out, by rw [HE.out]; exact HC3.out, HB3.out⟩
            case measure => simp [intOf]; omega
      · obtain rfl : k = kL := by omega
        go_wp2
        go_meet
        case rel => exact ⟨vi, by rw [HRI.out]; exact HM.out, by rw [HRI.out]; exact HC.out, HB.out⟩
  case rest =>
    obtain ⟨vi, hM, hC, hB⟩ := hcut
    have HM5 : Hid (MB wc w.heap.size w.heap.size Mb ⟨(kL : Int), ss, (rI l).1, [], [], zz⟩ vi (.slice none 0 0) (.slice none 0 0) []) := hM
    have HC5 : Hid (Cu wc C (.slice a l.length cap) (rI l).2) := hC
    have HB5 : Hid (Below w.heap.size w wc) := hB
    have Hs6 : Hid (∀ p, (rI l).2 = some p → p ≤ l.length) := fun p e => run_le Hs5.out (fun _ _ _ h => fI_le h) kL p (HRI.out ▸ e)
    clear hM hC hB
    go_upto_block 2 with fail
    go_cut [9] from 28 (fun u9 wc => ∃ vh us, MB wc w.heap.size w.heap.size Mb ⟨(kL : Int), ss, (rI l).1, (rH l).1, [], zz⟩ vi vh (.slice none 0 0) us ∧ Cu wc C (.slice a l.length cap) (rH l).2 ∧ Below w.heap.size w wc)
    case first =>
      go_wp2_with fail
      go_loopw [9] (fun i wr => ∃ (k : Nat) (vh : Value) (us : List Value), k ≤ kK ∧ i = .int .i64 k ∧ MB wr w.heap.size w.heap.size Mb ⟨(kL : Int), ss, (rI l).1, (run (fR l) (rI l).2 k).1, [], zz⟩ vi vh (.slice none 0 0) us ∧ Cu wr C (.slice a l.length cap) (run (fR l) (rI l).2 k).2 ∧ Below w.heap.size w wr) (fun i _ => kK - (intOf i).toNat)
      case atStart => exact ⟨0, _, _, Nat.zero_le _, rfl, HM5.out, HC5.out, HB5.out⟩
      case round =>
        clear HM5 HC5 HB5
        obtain ⟨k, vh, us, hk, rfl, hM, hC, hB⟩ := hrel
        have HM : Hid (MB wr w.heap.size w.heap.size Mb ⟨(kL : Int), ss, (rI l).1, (run (fR l) (rI l).2 k).1, [], zz⟩ vi vh (.slice none 0 0) us) := hM
        have HC : Hid (Cu wr C (.slice a l.length cap) (run (fR l) (rI l).2 k).2) := hC
        have HB : Hid (Below w.heap.size w wr) := hB
        have c2 := hC.flag
        have hsz : w.heap.size ≤ wr.heap.size := hB.size
        clear hM hC hB
        by_cases hlt : k < kK
        · have hki : (k : Int) < (kK : Int) := by omega
          cases hp : (run (fR l) (rI l).2 k).2 with
          | none =>
            have HE : Hid (rH l = run (fR l) (rI l).2 k) := HRH.out.trans (run_none hp kK (by omega))
            rw [hp] at c2
            simp only [Option.isNone_none] at c2
            clear hp
            go_wp2
            go_meet
            case rel => exact ⟨vh, us, by rw [HE.out]; exact HM.out, by rw [HE.out]; exact HC.out, HB.out⟩
          | some p =>
            rw [hp] at c2 HC
            simp only [Option.isNone_some] at c2
            have HE : Hid (run (fR l) (rI l).2 (k + 1) = ((run (fR l) (rI l).2 k).1 ++ [(fR l 0 (some p)).1], (fR l 0 (some p)).2)) := run_some hp
            have Hp : Hid (∀ r, some p = some r → r ≤ l.length) := fun r e => run_le Hs6.out (fun _ _ _ h => fR_le h) k r (hp.trans e)
            have hlk := run_length (fR l) (rI l).2 k
            generalize (run (fR l) (rI l).2 k).1 = lk at HM HE hlk
            obtain ⟨avh, cvh, hvh⟩ := owns_slice HM.out.h
            have m2 : wr.cell? ⟨Mb, 3, none⟩ = some vh := HM.out.b.cell rfl
            obtain ⟨r, hr⟩ : ∃ r, r = (fR l 0 (some p)).1 := ⟨_, rfl⟩
            have HG : Hid (Calls Try.prog 54 #[.pointer (some ⟨C, 0, none⟩)] wr.drew fun e w' => ∃ y, e = .returned y ∧ w'.ownsRow wr.heap.size 36 4 y r.length (cellsO r) ∧ Cu w' C (.slice a l.length cap) (fR l 0 (some p)).2 ∧ Turns (fun k => k = C) wr.drew w') := hr ▸ getOps_any C _ l (some p) wr.drew hl Hp.out HC.out.drew (Src8.of HX.out HB.out.drew (by omega))
            have HRR : Hid (r = (fR l 0 (some p)).1) := hr
            have HOL : Hid (∀ i k, i < lk.length → (uAt us i).ownBlock = some k → k < wr.heap.size) := HM.out.u.old
            subst hvh
            clear hp hr
            go_wp2_with fail
            clear c2
            go_region_law (first | (have hq := HM2; refine step_append_own (w := (w2.alloc (.cells #[.slice ay r.length cy] 68))) rfl (.tmp 61) (.tmp 64) 31 rfl w.heap.size 68 i6 (.slice none 0 0) 1 24 Try.underlying31 hi6 hjz0 hjz1 hjz2 rfl (by decide) (.slice avh lk.length cvh) lk.length us rfl (MB.alloc HM2.out _).h ⟨w2.heap.size, 0, none⟩ 1 1 [.slice ay r.length cy] rfl rfl (at_newS w2 _ _) (slice_ones _ _ _) (by unfold maxLen; omega) (by omega) (Nat.le_trans hs2 (sza w2 _)) ?_; intro v3 w3 hown3 hgrow3; have k3 : w3.cell? ⟨Mb, 3, none⟩ = some (.slice avh lk.length cvh) := ((MB.alloc HM2.out _).b.turns (grown_turns hgrow3) (owns_ne HM2.out.h HM2.out.b (by decide))).cell rfl; have f3 := ((MB.alloc HM2.out _).b.turns (grown_turns hgrow3) (owns_ne HM2.out.h HM2.out.b (by decide))).free 3; obtain ⟨av3, cv3, hv3⟩ := owns_slice hown3; subst hv3) | (go_simp; go_at_call 54; refine HG.out.mono ?_; rintro e w2 ⟨y, rfl, ho2, hc2, ht2⟩; (try dsimp only); obtain ⟨ay, cy, hy⟩ := owns_slice ho2; subst hy; have HO2 : Hid (w2.ownsRow wr.heap.size 36 4 (.slice ay r.length cy) r.length (cellsO r)) := ho2; have HM2 : Hid (MB w2 w.heap.size w.heap.size Mb ⟨(kL : Int), ss, (rI l).1, lk, [], zz⟩ vi (.slice avh lk.length cvh) (.slice none 0 0) us) := (HM.out.drew).kept HC.out.drew.bk.choose_spec (by decide) (by decide) (by decide) (by decide) (by decide) ht2; have HC2 : Hid (Cu w2 C (.slice a l.length cap) (fR l 0 (some p)).2) := hc2; have HB2 : Hid (Below w.heap.size w w2) := turns_below HB.out.drew ht2 (by omega) hsz; have hs2 : w.heap.size ≤ w2.heap.size := HB2.out.size; have k2 : w2.cell? ⟨Mb, 3, none⟩ = some (.slice avh lk.length cvh) := HM2.out.b.cell rfl; have k2a : (w2.alloc (.cells #[.slice ay r.length cy] 68)).cell? ⟨Mb, 3, none⟩ = some (.slice avh lk.length cvh) := (MB.alloc HM2.out _).b.cell rfl; clear hc2 ht2 ho2))
            all_goals
              have HM3 : Hid (MB (w3.setCell ⟨Mb, 3, none⟩ (.slice av3 (lk.length + 1) cv3)) w.heap.size w.heap.size Mb ⟨(kL : Int), ss, (rI l).1, (lk ++ [r]), [], zz⟩ vi (.slice av3 (lk.length + 1) cv3) (.slice none 0 0) (us ++ [.slice ay r.length cy])) := (MB.alloc HM2.out _).putH (World.ownsRow.alloc HO2.out _) hsz HOL.out hown3 hgrow3
              have HC3 : Hid (Cu (w3.setCell ⟨Mb, 3, none⟩ (.slice av3 (lk.length + 1) cv3)) C (.slice a l.length cap) (fR l 0 (some p)).2) := ((HC2.out.alloc _).turns (grown_turns hgrow3) (fun e => owns_ne HM2.out.h HC2.out.bk.choose_spec (by decide) e)).other (fun e => HM2.out.b.neq HC2.out.bk.choose_spec (by decide) e.symm) _ _
              have HB3 : Hid (Below w.heap.size w (w3.setCell ⟨Mb, 3, none⟩ (.slice av3 (lk.length + 1) cv3))) := ((HB2.out.alloc hs2 _).grown hgrow3 (Nat.le_trans hs2 (sza w2 _)) (fun j e => row_ge HM2.out.h e)).setCell (p := ⟨Mb, 3, none⟩) (by show w.heap.size ≤ Mb; omega) _
              clear hown3 hgrow3 k2 k2a k3 f3 m2
              generalize w3.setCell ⟨Mb, 3, none⟩ (.slice av3 (lk.length + 1) cv3) = V3 at HM3 HC3 HB3 ⊢
              go_wp2
              go_roundw
              case rel => exact ⟨k + 1, _, _, by omega, by go_num, by rw [HE.out, ← HRR.out]; exact HM3.out, by rw [HE.out]; exact HC3.out, HB3.out⟩
              case measure => simp [intOf]; omega
        · obtain rfl : k = kK := by omega
          go_wp2
          go_meet
          case rel => exact ⟨vh, us, by rw [HRH.out]; exact HM.out, by rw [HRH.out]; exact HC.out, HB.out⟩
    case rest =>
      obtain ⟨vh, us, hM, hC, hB⟩ := hcut
      have HM5 : Hid (MB wc w.heap.size w.heap.size Mb ⟨(kL : Int), ss, (rI l).1, (rH l).1, [], zz⟩ vi vh (.slice none 0 0) us) := hM
      have HC5 : Hid (Cu wc C (.slice a l.length cap) (rH l).2) := hC
      have HB5 : Hid (Below w.heap.size w wc) := hB
      have Hs7 : Hid (∀ p, (rH l).2 = some p → p ≤ l.length) := fun p e => run_le Hs6.out (fun _ _ _ h => fR_le h) kK p (HRH.out ▸ e)
      clear hM hC hB
      go_upto_block 4 with fail
      go_cut [10] from 28 (fun u10 wc => ∃ vs, MB wc w.heap.size w.heap.size Mb ⟨(kL : Int), ss, (rI l).1, (rH l).1, (rE l).1, zz⟩ vi vh vs us ∧ Cu wc C (.slice a l.length cap) (rE l).2 ∧ Below w.heap.size w wc)
      case first =>
        go_wp2_with fail
        go_loopw [10] (fun i wr => ∃ (k : Nat) (vs : Value), k ≤ kS ∧ i = .int .i64 k ∧ MB wr w.heap.size w.heap.size Mb ⟨(kL : Int), ss, (rI l).1, (rH l).1, (run (fE l) (rH l).2 k).1, zz⟩ vi vh vs us ∧ Cu wr C (.slice a l.length cap) (run (fE l) (rH l).2 k).2 ∧ Below w.heap.size w wr) (fun i _ => kS - (intOf i).toNat)
        case atStart => exact ⟨0, _, Nat.zero_le _, rfl, HM5.out, HC5.out, HB5.out⟩
        case round =>
          clear HM5 HC5 HB5
          obtain ⟨k, vs, hk, rfl, hM, hC, hB⟩ := hrel
          have HM : Hid (MB wr w.heap.size w.heap.size Mb ⟨(kL : Int), ss, (rI l).1, (rH l).1, (run (fE l) (rH l).2 k).1, zz⟩ vi vh vs us) := hM
          have HC : Hid (Cu wr C (.slice a l.length cap) (run (fE l) (rH l).2 k).2) := hC
          have HB : Hid (Below w.heap.size w wr) := hB
          have c2 := hC.flag
          have hsz : w.heap.size ≤ wr.heap.size := hB.size
          clear hM hC hB
          by_cases hlt : k < kS
          · have hki : (k : Int) < (kS : Int) := by omega
            cases hp : (run (fE l) (rH l).2 k).2 with
            | none =>
              have HE : Hid (rE l = run (fE l) (rH l).2 k) := HRE.out.trans (run_none hp kS (by omega))
              rw [hp] at c2
              simp only [Option.isNone_none] at c2
              clear hp
              go_wp2
              go_meet
              case rel => exact ⟨vs, by rw [HE.out]; exact HM.out, by rw [HE.out]; exact HC.out, HB.out⟩
            | some p =>
              rw [hp] at c2 HC
              simp only [Option.isNone_some] at c2
              have HE : Hid (run (fE l) (rH l).2 (k + 1) = ((run (fE l) (rH l).2 k).1 ++ [(fE l k (some p)).1], (fE l k (some p)).2)) := run_some hp
              have Hp1 : Hid (∀ r, some p = some r → r ≤ l.length) := fun r e => run_le Hs7.out (fun _ _ _ h => fE_le h) k r (hp.trans e)
              have HFE : Hid (fE l k (some p) = (⟨val2 l (some p), -1, (k : Int), val1 l (nxt l 2 (some p)), val1 l (nxt l 1 (nxt l 2 (some p))), val2 l (nxt l 1 (nxt l 1 (nxt l 2 (some p)))), (k : Int)⟩, nxt l 2 (nxt l 1 (nxt l 1 (nxt l 2 (some p)))))) := rfl
              have hlk := run_length (fE l) (rH l).2 k
              generalize (run (fE l) (rH l).2 k).1 = lk at HM HE hlk
              obtain ⟨avs, cvs, hvs⟩ := owns_slice HM.out.e
              subst hvs
              clear hp
              go_wp2_with fail
              clear c2
              refine (get2_any C _ l (some p) _ hl Hp1.out HC.out (Src8.of HX.out HB.out (by omega))).mono ?_
              rintro e w2 ⟨rfl, hc, ht⟩
              obtain ⟨τ1, hτ⟩ : ∃ τ, τ = nxt l 2 (some p) := ⟨_, rfl⟩
              rw [← hτ] at hc HFE
              have Hp2 : Hid (∀ r, τ1 = some r → r ≤ l.length) := fun r e => nxt_le (hτ ▸ e)
              generalize val2 l (some p) = z0 at HFE ⊢
              obtain ⟨V2, hV2⟩ : ∃ V, w2.alloc (.cells #[.int .i64 z0, .int .i64 (-1), .int .i64 (k : Int), .int .i64 0, .int .i64 0, .int .i64 0, .int .i64 (k : Int)] 70) = V := ⟨_, rfl⟩
              have hm := (HM.out).kept HC.out.bk.choose_spec (by decide) (by decide) (by decide) (by decide) (by decide) ht
              have HA : Hid (Aw w2.heap.size w.heap.size Mb vi vh (.slice avs lk.length cvs) us (rH l).1.length) := hm.aw
              have HM2 : Hid (MB V2 w.heap.size w.heap.size Mb ⟨(kL : Int), ss, (rI l).1, (rH l).1, lk, zz⟩ vi vh (.slice avs lk.length cvs) us) := hV2 ▸ hm.alloc _
              have HC2 : Hid (Cu V2 C (.slice a l.length cap) τ1) := hV2 ▸ hc.alloc _
              have hb2 := turns_below HB.out ht (by omega) hsz
              have HB2 : Hid (Below w.heap.size w V2) := hV2 ▸ hb2.alloc hb2.size _
              have HQ2 : Hid (Bk V2 w2.heap.size 70 #[.int .i64 z0, .int .i64 (-1), .int .i64 (k : Int), .int .i64 0, .int .i64 0, .int .i64 0, .int .i64 (k : Int)]) := hV2 ▸ Bk.new _ _ _
              have hCE : C < w2.heap.size := hc.lt
              have hwE : w.heap.size ≤ w2.heap.size := hb2.size
              have HV2 : Hid (w2.alloc (.cells #[.int .i64 z0, .int .i64 (-1), .int .i64 (k : Int), .int .i64 0, .int .i64 0, .int .i64 0, .int .i64 (k : Int)] 70) = V2) := hV2
              clear hc ht hτ hV2 hm hb2 HM HC HB hsz
              go_wp2_with fail
              rw [HV2.out]
              clear HV2
              refine (get1_any C _ l τ1 _ hl Hp2.out HC2.out (Src8.of HX.out HB2.out (by omega))).mono ?_
              rintro e w3 ⟨rfl, hc, ht⟩
              obtain ⟨τ2, hτ⟩ : ∃ τ, τ = nxt l 1 τ1 := ⟨_, rfl⟩
              rw [← hτ] at hc HFE
              have Hp3 : Hid (∀ r, τ2 = some r → r ≤ l.length) := fun r e => nxt_le (hτ ▸ e)
              generalize val1 l τ1 = z1 at HFE ⊢
              have hq := HQ2.out.turns ht (by omega)
              have q3 := hq.cell (i := 3) rfl
              have f3 := hq.free 3
              obtain ⟨V3, hV3⟩ : ∃ V, w3.setCell ⟨w2.heap.size, 3, none⟩ (.int .i64 z1) = V := ⟨_, rfl⟩
              have HM3 : Hid (MB V3 w.heap.size w.heap.size Mb ⟨(kL : Int), ss, (rI l).1, (rH l).1, lk, zz⟩ vi vh (.slice avs lk.length cvs) us) := hV3 ▸ ((HM2.out).kept HC2.out.bk.choose_spec (by decide) (by decide) (by decide) (by decide) (by decide) ht).put1 HA.out (Nat.le_refl _) _ _
              have HC3 : Hid (Cu V3 C (.slice a l.length cap) τ2) := hV3 ▸ hc.other (by omega) _ _
              have hb2 := turns_below HB2.out ht (by omega) HB2.out.size
              have HB3 : Hid (Below w.heap.size w V3) := hV3 ▸ hb2.setCell (p := ⟨w2.heap.size, 3, none⟩) (by show w.heap.size ≤ w2.heap.size; omega) _
              have HQ3 : Hid (Bk V3 w2.heap.size 70 #[.int .i64 z0, .int .i64 (-1), .int .i64 (k : Int), .int .i64 z1, .int .i64 0, .int .i64 0, .int .i64 (k : Int)]) := hV3 ▸ hq.put 3 _
              clear hc ht hτ hq hb2 HM2 HC2 HB2 HQ2
              go_wp2_with fail
              refine (get1_any C _ l τ2 _ hl Hp3.out HC3.out (Src8.of HX.out HB3.out (by omega))).mono ?_
              rintro e w4 ⟨rfl, hc, ht⟩
              obtain ⟨τ3, hτ⟩ : ∃ τ, τ = nxt l 1 τ2 := ⟨_, rfl⟩
              rw [← hτ] at hc HFE
              have Hp4 : Hid (∀ r, τ3 = some r → r ≤ l.length) := fun r e => nxt_le (hτ ▸ e)
              generalize val1 l τ2 = z2 at HFE ⊢
              have hq := HQ3.out.turns ht (by omega)
              have q4 := hq.cell (i := 4) rfl
              have f4 := hq.free 4
              obtain ⟨V4, hV4⟩ : ∃ V, w4.setCell ⟨w2.heap.size, 4, none⟩ (.int .i64 z2) = V := ⟨_, rfl⟩
              have HM4 : Hid (MB V4 w.heap.size w.heap.size Mb ⟨(kL : Int), ss, (rI l).1, (rH l).1, lk, zz⟩ vi vh (.slice avs lk.length cvs) us) := hV4 ▸ ((HM3.out).kept HC3.out.bk.choose_spec (by decide) (by decide) (by decide) (by decide) (by decide) ht).put1 HA.out (Nat.le_refl _) _ _
              have HC4 : Hid (Cu V4 C (.slice a l.length cap) τ3) := hV4 ▸ hc.other (by omega) _ _
              have hb2 := turns_below HB3.out ht (by omega) HB3.out.size
              have HB4 : Hid (Below w.heap.size w V4) := hV4 ▸ hb2.setCell (p := ⟨w2.heap.size, 4, none⟩) (by show w.heap.size ≤ w2.heap.size; omega) _
              have HQ4 : Hid (Bk V4 w2.heap.size 70 #[.int .i64 z0, .int .i64 (-1), .int .i64 (k : Int), .int .i64 z1, .int .i64 z2, .int .i64 0, .int .i64 (k : Int)]) := hV4 ▸ hq.put 4 _
              clear hc ht hτ hq hb2 HM3 HC3 HB3 HQ3
              go_wp2_with fail
              refine (get2_any C _ l τ3 _ hl Hp4.out HC4.out (Src8.of HX.out HB4.out (by omega))).mono ?_
              rintro e w5 ⟨rfl, hc, ht⟩
              obtain ⟨τ4, hτ⟩ : ∃ τ, τ = nxt l 2 τ3 := ⟨_, rfl⟩
              rw [← hτ] at hc HFE
              have Hp5 : Hid (∀ r, τ4 = some r → r ≤ l.length) := fun r e => nxt_le (hτ ▸ e)
              generalize val2 l τ3 = z3 at HFE ⊢
              have hq := HQ4.out.turns ht (by omega)
              have q5 := hq.cell (i := 5) rfl
              have f5 := hq.free 5
              obtain ⟨V5, hV5⟩ : ∃ V, w5.setCell ⟨w2.heap.size, 5, none⟩ (.int .i64 z3) = V := ⟨_, rfl⟩
              have HM5 : Hid (MB V5 w.heap.size w.heap.size Mb ⟨(kL : Int), ss, (rI l).1, (rH l).1, lk, zz⟩ vi vh (.slice avs lk.length cvs) us) := hV5 ▸ ((HM4.out).kept HC4.out.bk.choose_spec (by decide) (by decide) (by decide) (by decide) (by decide) ht).put1 HA.out (Nat.le_refl _) _ _
              have HC5 : Hid (Cu V5 C (.slice a l.length cap) τ4) := hV5 ▸ hc.other (by omega) _ _
              have hb2 := turns_below HB4.out ht (by omega) HB4.out.size
              have HB5 : Hid (Below w.heap.size w V5) := hV5 ▸ hb2.setCell (p := ⟨w2.heap.size, 5, none⟩) (by show w.heap.size ≤ w2.heap.size; omega) _
              have HQ5 : Hid (Bk V5 w2.heap.size 70 #[.int .i64 z0, .int .i64 (-1), .int .i64 (k : Int), .int .i64 z1, .int .i64 z2, .int .i64 z3, .int .i64 (k : Int)]) := hV5 ▸ hq.put 5 _
              clear hc ht hτ hq hb2 HM4 HC4 HB4 HQ4
              have e0 := HQ5.out.cell (i := 0) rfl
              have e1 := HQ5.out.cell (i := 1) rfl
              have e2 := HQ5.out.cell (i := 2) rfl
              have e3 := HQ5.out.cell (i := 3) rfl
              have e4 := HQ5.out.cell (i := 4) rfl
              have e5 := HQ5.out.cell (i := 5) rfl
              have e6 := HQ5.out.cell (i := 6) rfl
              have hs5 : w.heap.size ≤ V5.heap.size := HB5.out.size
              have b4 : V5.cell? ⟨Mb, 4, none⟩ = some (.slice avs lk.length cvs) := HM5.out.b.cell rfl
              go_wp2_with (at_builtin; refine wpList_append_own _ rfl _ _ 32 rfl w.heap.size 70 i7 (.agg #[.int .i64 0, .int .i64 0, .int .i64 0, .int .i64 0, .int .i64 0, .int .i64 0, .int .i64 0]) 7 56 Try.underlying32 hi7 hez0 hez1 hez2 rfl (by decide) (.slice avs lk.length cvs) lk.length (cellsL lk) rfl (MB.alloc HM5.out _).e ⟨V5.heap.size, 0, none⟩ 1 1 (cellsL [⟨z0, -1, (k : Int), z1, z2, z3, (k : Int)⟩]) rfl rfl (at_newE V5 ⟨z0, -1, (k : Int), z1, z2, z3, (k : Int)⟩) (cellsL_one _) (by unfold maxLen; omega) (by omega) (Nat.le_trans hs5 (sza V5 _)) ?_; intro v6 w6 hown6 hgrow6 _; have k6 : w6.cell? ⟨Mb, 4, none⟩ = some (.slice avs lk.length cvs) := ((MB.alloc HM5.out _).b.turns (grown_turns hgrow6) (owns_ne HM5.out.e HM5.out.b (by decide))).cell rfl; have f6 := ((MB.alloc HM5.out _).b.turns (grown_turns hgrow6) (owns_ne HM5.out.e HM5.out.b (by decide))).free 4; obtain ⟨av6, cv6, hv6⟩ := owns_slice hown6; subst hv6)
              go_roundw
              case rel =>
                refine ⟨k + 1, _, by omega, by go_num, by rw [HE.out, HFE.out]; exact (MB.alloc HM5.out _).putE hown6 hgrow6, ?_, ?_⟩
                · rw [HE.out, HFE.out]
                  exact ((HC5.out.alloc _).turns (grown_turns hgrow6) (fun e => owns_ne HM5.out.e HC5.out.bk.choose_spec (by decide) e)).other (fun e => HM5.out.b.neq HC5.out.bk.choose_spec (by decide) e.symm) _ _
                · exact ((HB5.out.alloc hs5 _).grown hgrow6 (Nat.le_trans hs5 (sza V5 _)) (fun j e => row_ge HM5.out.e e)).setCell (p := ⟨Mb, 4, none⟩) (by show w.heap.size ≤ Mb; omega) _
              case measure => simp [intOf]; omega
          · obtain rfl : k = kS := by omega
            go_wp2
            go_meet
            case rel => exact ⟨vs, by rw [HRE.out]; exact HM.out, by rw [HRE.out]; exact HC.out, HB.out⟩
      case rest =>
        obtain ⟨vs, hM, hC, hB⟩ := hcut
        have hMD : (⟨(kL : Int), ss, (rI l).1, (rH l).1, (rE l).1, zz⟩ : Md) = rdM l := (HMD.out _ _ _).trans rfl
        rw [hMD] at hM
        have HM5 : Hid (MB wc w.heap.size w.heap.size Mb (rdM l) vi vh vs us) := hM
        have HB5 : Hid (Below w.heap.size w wc) := hB
        obtain ⟨at_, hcb, hat⟩ := hC
        have HCB : Hid (Bk wc C 81 #[(.slice a l.length cap), .int .i64 at_, .bool (rE l).2.isNone]) := hcb
        have r0 := hM.r.cell (i := 0) rfl
        have r1 := hM.r.cell (i := 1) rfl
        have r2 := hM.r.cell (i := 2) rfl
        have r3 := hM.r.cell (i := 3) rfl
        have r4 := hM.r.cell (i := 4) rfl
        have r5 := hM.r.cell (i := 5) rfl
        have rf := hM.r.free
        have c2 : wc.cell? ⟨C, 2, none⟩ = some (.bool (rE l).2.isNone) := hcb.cell rfl
        have c1 : wc.cell? ⟨C, 1, none⟩ = some (.int .i64 at_) := hcb.cell rfl
        clear hM hB hcb HMD hMD
        cases hp : (rE l).2 with
        | none =>
          have HOF : Hid (readOk l = false) := (by simp [readOk, hp] : readOk l = false)
          rw [hp] at c2
          simp only [Option.isNone_none] at c2
          clear hp hat
          go_wp2
          clear r0 r1 r2 r3 r4 r5 rf
          obtain ⟨X5, hX5⟩ : ∃ X5, put6 wc w.heap.size (.int .i64 0) (.int .i64 0) (.slice none 0 0) (.slice none 0 0) (.slice none 0 0) (.int .i64 0) = X5 := ⟨_, rfl⟩
          have hR := (HM5.out.r).put6 (.int .i64 0) (.int .i64 0) (.slice none 0 0) (.slice none 0 0) (.slice none 0 0) (.int .i64 0)
          have ht := put6_turns wc w.heap.size (.int .i64 0) (.int .i64 0) (.slice none 0 0) (.slice none 0 0) (.slice none 0 0) (.int .i64 0)
          rw [hX5] at hR ht
          unfold put6 at hX5
          rw [hX5]
          have t0 := hR.cell (i := 0) rfl
          have t1 := hR.cell (i := 1) rfl
          have t2 := hR.cell (i := 2) rfl
          have t3 := hR.cell (i := 3) rfl
          have t4 := hR.cell (i := 4) rfl
          have t5 := hR.cell (i := 5) rfl
          refine bodyPost_ret (v := .tuple #[.agg Z6, .bool false]) (by simp [results, Try.results22, go_sem, t0, t1, t2, t3, t4, t5]) rfl ⟨_, by rw [HOF.out], ?_, ?_⟩
          · rw [show readM l = zeroM from by simp [readM, HOF.out]]
            exact isM_zero _
          · exact (HB5.out).trans (ht.to_below (fun k e => by omega) (HB5.out).size)
        | some p =>
          have hlp := hat p hp
          subst hlp
          rw [hp] at c2
          simp only [Option.isNone_some] at c2
          by_cases hpl : p = l.length
          · subst hpl
            obtain ⟨ai, ci, hvi⟩ := owns_slice HM5.out.i
            obtain ⟨ah, ch, hvh⟩ := owns_slice HM5.out.h
            obtain ⟨ae, ce, hve⟩ := owns_slice HM5.out.e
            subst hvi hvh hve
            have b0 := HM5.out.b.cell (i := 0) rfl
            have b1 := HM5.out.b.cell (i := 1) rfl
            have b2 := HM5.out.b.cell (i := 2) rfl
            have b3 := HM5.out.b.cell (i := 3) rfl
            have b4 := HM5.out.b.cell (i := 4) rfl
            have b5 := HM5.out.b.cell (i := 5) rfl
            have HOK : Hid (readOk l = (rdM l).ok) := (by simp [readOk, hp] : readOk l = (rdM l).ok)
            clear hp hat
            go_wp2_with fail
            refine (sModM _ (rdM l) _ (small_rdM l) HM5.out.isM).mono ?_
            rintro e w7 ⟨rfl, hb7⟩
            have HM7 : Hid (MB w7 w.heap.size w.heap.size Mb (rdM l) (.slice ai (rdM l).i.length ci) (.slice ah (rdM l).h.length ch) (.slice ae (rdM l).e.length ce) us) := HM5.out.below hb7
            have HB7 : Hid (Below w.heap.size w w7) := HB5.out.trans (hb7.mono HB5.out.size)
            clear hb7 HM5 HB5 HCB r0 r1 r2 r3 r4 r5 rf b0 b1 b2 b3 b4 b5 c1 c2
            have b0 := HM7.out.b.cell (i := 0) rfl
            have b1 := HM7.out.b.cell (i := 1) rfl
            have b2 := HM7.out.b.cell (i := 2) rfl
            have b3 := HM7.out.b.cell (i := 3) rfl
            have b4 := HM7.out.b.cell (i := 4) rfl
            have b5 := HM7.out.b.cell (i := 5) rfl
            have r0 := HM7.out.r.cell (i := 0) rfl
            have r1 := HM7.out.r.cell (i := 1) rfl
            have r2 := HM7.out.r.cell (i := 2) rfl
            have r3 := HM7.out.r.cell (i := 3) rfl
            have r4 := HM7.out.r.cell (i := 4) rfl
            have r5 := HM7.out.r.cell (i := 5) rfl
            have rf := HM7.out.r.free
            have HMe : Hid (Bk w7 Mb 34 #[.int .i64 (rdM l).n, .int .i64 (rdM l).s, (.slice ai (rdM l).i.length ci), (.slice ah (rdM l).h.length ch), (.slice ae (rdM l).e.length ce), .int .i64 (rdM l).z]) := HM7.out.b
            cases hok : (rdM l).ok with
            | false =>
              have HOF : Hid (readOk l = false) := HOK.out.trans hok
              clear hok HOK
              go_wp2
              clear r0 r1 r2 r3 r4 r5 rf
              obtain ⟨X5, hX5⟩ : ∃ X5, put6 w7 w.heap.size (.int .i64 0) (.int .i64 0) (.slice none 0 0) (.slice none 0 0) (.slice none 0 0) (.int .i64 0) = X5 := ⟨_, rfl⟩
              have hR := (HM7.out.r).put6 (.int .i64 0) (.int .i64 0) (.slice none 0 0) (.slice none 0 0) (.slice none 0 0) (.int .i64 0)
              have ht := put6_turns w7 w.heap.size (.int .i64 0) (.int .i64 0) (.slice none 0 0) (.slice none 0 0) (.slice none 0 0) (.int .i64 0)
              rw [hX5] at hR ht
              unfold put6 at hX5
              rw [hX5]
              have t0 := hR.cell (i := 0) rfl
              have t1 := hR.cell (i := 1) rfl
              have t2 := hR.cell (i := 2) rfl
              have t3 := hR.cell (i := 3) rfl
              have t4 := hR.cell (i := 4) rfl
              have t5 := hR.cell (i := 5) rfl
              refine bodyPost_ret (v := .tuple #[.agg Z6, .bool false]) (by simp [results, Try.results22, go_sem, t0, t1, t2, t3, t4, t5]) rfl ⟨_, by rw [HOF.out], ?_, ?_⟩
              · rw [show readM l = zeroM from by simp [readM, HOF.out]]
                exact isM_zero _
              · exact (HB7.out).trans (ht.to_below (fun k e => by omega) (HB7.out).size)
            | true =>
              have HOT : Hid (readOk l = true) := HOK.out.trans hok
              clear hok HOK
              go_wp2
              clear r0 r1 r2 r3 r4 r5 rf b0 b1 b2 b3 b4 b5
              obtain ⟨X5, hX5⟩ : ∃ X5, put6 w7 w.heap.size (.int .i64 (rdM l).n) (.int .i64 (rdM l).s) (.slice ai (rdM l).i.length ci) (.slice ah (rdM l).h.length ch) (.slice ae (rdM l).e.length ce) (.int .i64 (rdM l).z) = X5 := ⟨_, rfl⟩
              have hR := HM7.out.r.put6 (.int .i64 (rdM l).n) (.int .i64 (rdM l).s) (.slice ai (rdM l).i.length ci) (.slice ah (rdM l).h.length ch) (.slice ae (rdM l).e.length ce) (.int .i64 (rdM l).z)
              have ht := put6_turns w7 w.heap.size (.int .i64 (rdM l).n) (.int .i64 (rdM l).s) (.slice ai (rdM l).i.length ci) (.slice ah (rdM l).h.length ch) (.slice ae (rdM l).e.length ce) (.int .i64 (rdM l).z)
              rw [hX5] at hR ht
              unfold put6 at hX5
              rw [hX5]
              have t0 := hR.cell (i := 0) rfl
              have t1 := hR.cell (i := 1) rfl
              have t2 := hR.cell (i := 2) rfl
              have t3 := hR.cell (i := 3) rfl
              have t4 := hR.cell (i := 4) rfl
              have t5 := hR.cell (i := 5) rfl
              refine bodyPost_ret (v := .tuple #[.agg #[.int .i64 (rdM l).n, .int .i64 (rdM l).s, (.slice ai (rdM l).i.length ci), (.slice ah (rdM l).h.length ch), (.slice ae (rdM l).e.length ce), .int .i64 (rdM l).z], .bool true]) (by simp [results, Try.results22, go_sem, t0, t1, t2, t3, t4, t5]) rfl ⟨_, by rw [HOT.out], ?_, ?_⟩
              · rw [show readM l = rdM l from by simp [readM, HOT.out]]
                exact HM7.out.done ht
              · exact HB7.out.trans (ht.to_below (fun k e => by omega) HB7.out.size)
          · have HOF : Hid (readOk l = false) := (by simp [readOk, hp, hpl] : readOk l = false)
            have hpz : ¬ ((p : Int) = (l.length : Int)) := by omega
            clear hp hat
            go_wp2
            clear r0 r1 r2 r3 r4 r5 rf
            obtain ⟨X5, hX5⟩ : ∃ X5, put6 wc w.heap.size (.int .i64 0) (.int .i64 0) (.slice none 0 0) (.slice none 0 0) (.slice none 0 0) (.int .i64 0) = X5 := ⟨_, rfl⟩
            have hR := (HM5.out.r).put6 (.int .i64 0) (.int .i64 0) (.slice none 0 0) (.slice none 0 0) (.slice none 0 0) (.int .i64 0)
            have ht := put6_turns wc w.heap.size (.int .i64 0) (.int .i64 0) (.slice none 0 0) (.slice none 0 0) (.slice none 0 0) (.int .i64 0)
            rw [hX5] at hR ht
            unfold put6 at hX5
            rw [hX5]
            have t0 := hR.cell (i := 0) rfl
            have t1 := hR.cell (i := 1) rfl
            have t2 := hR.cell (i := 2) rfl
            have t3 := hR.cell (i := 3) rfl
            have t4 := hR.cell (i := 4) rfl
            have t5 := hR.cell (i := 5) rfl
            refine bodyPost_ret (v := .tuple #[.agg Z6, .bool false]) (by simp [results, Try.results22, go_sem, t0, t1, t2, t3, t4, t5]) rfl ⟨_, by rw [HOF.out], ?_, ?_⟩
            · rw [show readM l = zeroM from by simp [readM, HOF.out]]
              exact isM_zero _
            · exact (HB5.out).trans (ht.to_below (fun k e => by omega) (HB5.out).size)
end Go.Proofs.Ythjabkfnmcodbaa
