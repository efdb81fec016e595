/- The program's byteReader.model. -/
import Derived.Test.YtbljfphdghfkfaaGreatDoorModelsCardG32
import Derived.Test.YtbljfphdghfkfaaGreatDoorModelsCardG17
import Derived.Test.YtbljfphdghfkfaaGreatDoorModelsCardG09
namespace Go.Proofs.YtbljfphdghfkfaaGreatDoor
open Go.RowKit
theorem rOk_E {l : List UInt8} (h : (rE l).2 = none) : readOk l = false := by simp [readOk, h]
theorem rOk_H {l : List UInt8} (h : (rH l).2 = none) : readOk l = false := rOk_E (by unfold rE; rw [h]; exact run_from _ _)
theorem rOk_I {l : List UInt8} (h : (rI l).2 = none) : readOk l = false := rOk_H (by unfold rH; rw [h]; exact run_from _ _)
theorem rOk_5 {l : List UInt8} (h : s5 l = none) : readOk l = false := rOk_I (by unfold rI; rw [h]; exact run_from _ _)
set_option maxRecDepth 100000 in
set_option maxHeartbeats 16000000 in
theorem model_any (B R : Nat) (l : List UInt8) (w : World) (hl : l.length ≤ 1048576) (hR : Rd B w R l 0) :
  Calls Tryz.prog 40 #[.pointer (some ⟨R, 0, none⟩)] w fun e w' => Turns (fun b => b = R) w w' ∧ ((readOk l = true ∧ ∃ vi vh vs us, e = .returned (.agg #[.int .i64 (rdM l).n, .int .i64 (rdM l).s, vi, vh, vs, .int .i64 (rdM l).z]) ∧ MO w' w.heap.size (rdM l) vi vh vs us) ∨ (readOk l = false ∧ Pan e)) := by
 have HN : Hid (s5 l = nxt l 2 (nxt l 2 (nxt l 1 (nxt l 1 (nxt l 1 (some 0)))))) := rfl
 have HV0 : Hid (nLps l = val1 l (some 0)) := rfl
 have HV1 : Hid (nKin l = val1 l (nxt l 1 (some 0))) := rfl
 have HV2 : Hid (nSta l = val1 l (nxt l 1 (nxt l 1 (some 0)))) := rfl
 have HV3 : Hid ((rdM l).z = val2 l (nxt l 1 (nxt l 1 (nxt l 1 (some 0))))) := rfl
 have HV4 : Hid ((rdM l).s = val2 l (nxt l 2 (nxt l 1 (nxt l 1 (nxt l 1 (some 0)))))) := rfl
 have hRw := hR.lt
 have hBw : B ≤ w.heap.size := Nat.le_trans hR.1 (Nat.le_of_lt hRw)
 obtain ⟨Mb, hMb⟩ : ∃ Mb, Mb = w.heap.size + 1 := ⟨_, rfl⟩
 obtain ⟨W0, hW0⟩ : ∃ W0, (w.alloc (.cells Z6 27)).alloc (.cells Z6 27) = W0 := ⟨_, rfl⟩
 have HM0 : Hid (MB W0 w.heap.size w.heap.size Mb ⟨0, 0, [], [], [], 0⟩ (.slice none 0 0) (.slice none 0 0) (.slice none 0 0) []) := hW0 ▸ MB.new (by omega) ((Bk.new w _ _).alloc _) (by rw [hMb]; exact Bk.newAt (by simp) _ _)
 have HR0 : Hid (Rd B W0 R l 0) := hW0 ▸ (hR.alloc _).alloc _
 have HT0 : Hid (Turns (fun b => b = R) w W0) := hW0 ▸ ((Turns.refl _ w).alloc _).alloc _
 have HW0 : Hid ((w.alloc (.cells Z6 27)).alloc (.cells Z6 27) = W0) := hW0
 have HMe : Hid (Mb = w.heap.size + 1) := hMb
 have hMw : w.heap.size < Mb := by omega
 have hMB : B ≤ Mb := by omega
 have hMR : R ≠ Mb := by omega
 clear hR hW0 hMb
 go_enter Tryz.func40, Tryz.ntmps40
 go_wp2_with fail
 rw [HW0.out, ← HMe.out]
 clear HW0 HMe
 refine (one_any B R l 0 _ hl HR0.out).mono ?_
 rintro e w1 ⟨ht, (⟨p1, hq, rfl, hR⟩ | ⟨hq, u, pv, rfl⟩)⟩
 rotate_left
 ·have HF : Hid (Turns (fun b => b = R) w w1 ∧ readOk l = false) := ⟨HT0.out.trans ht, rOk_5 (by have := HN.out; rw [hq] at this; exact this)⟩
  go_wp2
  exact ⟨rfl, HF.out.1, .inr ⟨HF.out.2, _, _, rfl⟩⟩
 rw [hq] at HN HV1 HV2 HV3 HV4
 have hlow0 := val1_low l (some 0)
 generalize val1 l (some 0) = nL at HV0 hlow0 ⊢
 have hm := HM0.out.kept HR0.out.bk.choose_spec (by decide) (by decide) (by decide) (by decide) (by decide) ht
 have g0 := hm.b.cell (i := 0) rfl
 have f0' := hm.b.free 0
 obtain ⟨W1, hW⟩ : ∃ V, w1.setCell ⟨Mb, 0, none⟩ (.int .i64 nL) = V := ⟨_, rfl⟩
 have HM1 : Hid (MB W1 w.heap.size w.heap.size Mb ⟨nL, 0, [], [], [], 0⟩ (.slice none 0 0) (.slice none 0 0) (.slice none 0 0) []) := hW ▸ hm.putL nL
 have HR1 : Hid (Rd B W1 R l p1) := hW ▸ hR.put hMB hMR _ _
 have HT1 : Hid (Turns (fun b => b = R) w W1) := hW ▸ (HT0.out.trans ht).setNew (by omega) _ _
 have HW1 : Hid (w1.setCell ⟨Mb, 0, none⟩ (.int .i64 nL) = W1) := hW
 clear ht hq hR hm hW HM0 HR0 HT0
 go_wp2_with fail
 rw [HW1.out]
 clear HW1 g0 f0'
 refine (one_any B R l p1 _ hl HR1.out).mono ?_
 rintro e w2 ⟨ht, (⟨p2, hq, rfl, hR⟩ | ⟨hq, u, pv, rfl⟩)⟩
 rotate_left
 ·have HF : Hid (Turns (fun b => b = R) w w2 ∧ readOk l = false) := ⟨HT1.out.trans ht, rOk_5 (by have := HN.out; rw [hq] at this; exact this)⟩
  go_wp2
  exact ⟨rfl, HF.out.1, .inr ⟨HF.out.2, _, _, rfl⟩⟩
 rw [hq] at HN HV2 HV3 HV4
 have hlow1 := val1_low l (some p1)
 generalize val1 l (some p1) = nK at HV1 hlow1 ⊢
 have hm := HM1.out.kept HR1.out.bk.choose_spec (by decide) (by decide) (by decide) (by decide) (by decide) ht
 have HM2 : Hid (MB w2 w.heap.size w.heap.size Mb ⟨nL, 0, [], [], [], 0⟩ (.slice none 0 0) (.slice none 0 0) (.slice none 0 0) []) := hm
 have HR2 : Hid (Rd B w2 R l p2) := hR
 have HT2 : Hid (Turns (fun b => b = R) w w2) := HT1.out.trans ht
 clear ht hq hR hm HM1 HR1 HT1
 go_wp2_with fail
 refine (one_any B R l p2 _ hl HR2.out).mono ?_
 rintro e w3 ⟨ht, (⟨p3, hq, rfl, hR⟩ | ⟨hq, u, pv, rfl⟩)⟩
 rotate_left
 ·have HF : Hid (Turns (fun b => b = R) w w3 ∧ readOk l = false) := ⟨HT2.out.trans ht, rOk_5 (by have := HN.out; rw [hq] at this; exact this)⟩
  go_wp2
  exact ⟨rfl, HF.out.1, .inr ⟨HF.out.2, _, _, rfl⟩⟩
 rw [hq] at HN HV3 HV4
 have hlow2 := val1_low l (some p2)
 generalize val1 l (some p2) = nS at HV2 hlow2 ⊢
 have hm := HM2.out.kept HR2.out.bk.choose_spec (by decide) (by decide) (by decide) (by decide) (by decide) ht
 have HM3 : Hid (MB w3 w.heap.size w.heap.size Mb ⟨nL, 0, [], [], [], 0⟩ (.slice none 0 0) (.slice none 0 0) (.slice none 0 0) []) := hm
 have HR3 : Hid (Rd B w3 R l p3) := hR
 have HT3 : Hid (Turns (fun b => b = R) w w3) := HT2.out.trans ht
 clear ht hq hR hm HM2 HR2 HT2
 go_wp2_with fail
 refine (two_any B R l p3 _ hl HR3.out).mono ?_
 rintro e w4 ⟨ht, (⟨p4, hq, rfl, hR⟩ | ⟨hq, u, pv, rfl⟩)⟩
 rotate_left
 ·have HF : Hid (Turns (fun b => b = R) w w4 ∧ readOk l = false) := ⟨HT3.out.trans ht, rOk_5 (by have := HN.out; rw [hq] at this; exact this)⟩
  go_wp2
  exact ⟨rfl, HF.out.1, .inr ⟨HF.out.2, _, _, rfl⟩⟩
 rw [hq] at HN HV4
 generalize val2 l (some p3) = zz at HV3 ⊢
 have hm := HM3.out.kept HR3.out.bk.choose_spec (by decide) (by decide) (by decide) (by decide) (by decide) ht
 have g3 := hm.b.cell (i := 5) rfl
 have f3' := hm.b.free 5
 obtain ⟨W4, hW⟩ : ∃ V, w4.setCell ⟨Mb, 5, none⟩ (.int .i64 zz) = V := ⟨_, rfl⟩
 have HM4 : Hid (MB W4 w.heap.size w.heap.size Mb ⟨nL, 0, [], [], [], zz⟩ (.slice none 0 0) (.slice none 0 0) (.slice none 0 0) []) := hW ▸ hm.putN zz
 have HR4 : Hid (Rd B W4 R l p4) := hW ▸ hR.put hMB hMR _ _
 have HT4 : Hid (Turns (fun b => b = R) w W4) := hW ▸ (HT3.out.trans ht).setNew (by omega) _ _
 have HW4 : Hid (w4.setCell ⟨Mb, 5, none⟩ (.int .i64 zz) = W4) := hW
 clear ht hq hR hm hW HM3 HR3 HT3
 go_wp2_with fail
 rw [HW4.out]
 clear HW4 g3 f3'
 refine (two_any B R l p4 _ hl HR4.out).mono ?_
 rintro e w5 ⟨ht, (⟨p5, hq, rfl, hR⟩ | ⟨hq, u, pv, rfl⟩)⟩
 rotate_left
 ·have HF : Hid (Turns (fun b => b = R) w w5 ∧ readOk l = false) := ⟨HT4.out.trans ht, rOk_5 (by have := HN.out; rw [hq] at this; exact this)⟩
  go_wp2
  exact ⟨rfl, HF.out.1, .inr ⟨HF.out.2, _, _, rfl⟩⟩
 rw [hq] at HN
 generalize val2 l (some p4) = ss at HV4 ⊢
 have hm := HM4.out.kept HR4.out.bk.choose_spec (by decide) (by decide) (by decide) (by decide) (by decide) ht
 have g4 := hm.b.cell (i := 1) rfl
 have f4' := hm.b.free 1
 obtain ⟨W5, hW⟩ : ∃ V, w5.setCell ⟨Mb, 1, none⟩ (.int .i64 ss) = V := ⟨_, rfl⟩
 have HM5 : Hid (MB W5 w.heap.size w.heap.size Mb ⟨nL, ss, [], [], [], zz⟩ (.slice none 0 0) (.slice none 0 0) (.slice none 0 0) []) := hW ▸ hm.putS ss
 have HR5 : Hid (Rd B W5 R l p5) := hW ▸ hR.put hMB hMR _ _
 have HT5 : Hid (Turns (fun b => b = R) w W5) := hW ▸ (HT4.out.trans ht).setNew (by omega) _ _
 clear ht hq hR hm HM4 HR4 HT4
 obtain ⟨kL, hkL⟩ : ∃ k : Nat, nL = (k : Int) := ⟨nL.toNat, by omega⟩
 obtain ⟨kK, hkK⟩ : ∃ k : Nat, nK = (k : Int) := ⟨nK.toNat, by omega⟩
 obtain ⟨kS, hkS⟩ : ∃ k : Nat, nS = (k : Int) := ⟨nS.toNat, by omega⟩
 have hL9 : kL ≤ 255 := by omega
 have hK9 : kK ≤ 255 := by omega
 have hS9 : kS ≤ 255 := by omega
 subst hkL hkK hkS
 have HRI : Hid (rI l = runG (fI l) (some p5) kL) := (by unfold rI; rw [HV0.out, HN.out]; rfl : rI l = runG (fI l) (some p5) kL)
 have HRH : Hid (rH l = runG (fR l) (rI l).2 kK) := (by unfold rH; rw [HV1.out]; rfl : rH l = runG (fR l) (rI l).2 kK)
 have HRE : Hid (rE l = runG (fE l) (rH l).2 kS) := (by unfold rE; rw [HV2.out]; rfl : rE l = runG (fE l) (rH l).2 kS)
 have HMD : Hid (∀ i h e, (⟨(kL : Int), ss, i, h, e, zz⟩ : Md) = ⟨(rdM l).n, (rdM l).s, i, h, e, (rdM l).z⟩) := fun i h e => by
  rw [HV4.out, HV3.out, show (rdM l).n = nLps l from rfl, HV0.out]
 clear hlow0 hlow1 hlow2 HN HV0 HV1 HV2 HV3 HV4
 have m0 := HM5.out.b.cell (i := 0) rfl
 obtain ⟨i3, hi3, hiz0, hiz1, hiz2⟩ := info_parts info3
 obtain ⟨i6, hi6, hjz0, hjz1, hjz2⟩ := info_parts infoSS
 obtain ⟨i7, hi7, hez0, hez1, hez2⟩ := info_parts infoEv
 go_wp2
 clear g4 f4' hW m0
 go_loopw [22] (fun i wr => ∃ (k : Nat) (vi : Value) (r : Nat), k ≤ kL ∧ i = .int .i64 k ∧ (runG (fI l) (some p5) k).2 = some r ∧ MB wr w.heap.size w.heap.size Mb ⟨(kL : Int), ss, (runG (fI l) (some p5) k).1, [], [], zz⟩ vi (.slice none 0 0) (.slice none 0 0) [] ∧ Rd B wr R l r ∧ Turns (fun b => b = R) w wr) (fun i _ => kL - (intOf i).toNat)
 case atStart => exact ⟨0, _, p5, Nat.zero_le _, rfl, rfl, HM5.out, HR5.out, HT5.out⟩
 case round =>
  clear HM5 HR5 HT5
  obtain ⟨k, vi, r, hk, rfl, hr, hM, hR, hT⟩ := hrel
  have HM : Hid (MB wr w.heap.size w.heap.size Mb ⟨(kL : Int), ss, (runG (fI l) (some p5) k).1, [], [], zz⟩ vi (.slice none 0 0) (.slice none 0 0) []) := hM
  have HR : Hid (Rd B wr R l r) := hR
  have HT : Hid (Turns (fun b => b = R) w wr) := hT
  have Hr : Hid ((runG (fI l) (some p5) k).2 = some r) := hr
  have hsz : w.heap.size ≤ wr.heap.size := hT.size
  have HE : Hid (runG (fI l) (some p5) (k + 1) = ((runG (fI l) (some p5) k).1 ++ [val2 l (some r)], nxt l 2 (some r))) := run_some hr
  clear hM hR hT hr
  by_cases hlt : k < kL
  ·have hki : (k : Int) < (kL : Int) := by omega
   have hlk := run_length (fI l) (some p5) k
   generalize (runG (fI l) (some p5) k).1 = lk at HM HE hlk
   obtain ⟨avi, cvi, hvi⟩ := owns_slice HM.out.i
   have k0 : wr.cell? ⟨Mb, 2, none⟩ = some vi := HM.out.b.cell rfl
   obtain ⟨zv, hzv⟩ : ∃ z, z = val2 l (some r) := ⟨_, rfl⟩
   have HG2 : Hid (Calls Tryz.prog 75 #[.pointer (some ⟨R, 0, none⟩)] wr.drew fun e w' => Turns (fun k => k = R) wr.drew w' ∧ ((∃ q, nxt l 2 (some r) = some q ∧ e = .returned (.int .i64 zv) ∧ Rd B w' R l q) ∨ (nxt l 2 (some r) = none ∧ Pan e))) := hzv ▸ two_any B R l r wr.drew hl HR.out.drew
   have HTD : Hid (Turns (fun b => b = R) w wr.drew) := ⟨HT.out.os, HT.out.tape, HT.out.output, HT.out.size, HT.out.block⟩
   have HFN : Hid (nxt l 2 (some r) = none → readOk l = false) := fun hq2 => rOk_I (by
    have h2 : (runG (fI l) (some p5) (k + 1)).2 = none := by rw [HE.out]; exact hq2
    rw [HRI.out, run_none h2 kL (by omega)]; exact h2)
   have HZV : Hid (zv = val2 l (some r)) := hzv
   subst hvi
   clear hzv
   go_wp2_with fail
   go_region_law (first | (have hq := HM2; refine step_append_own (w := w2.alloc (.cells #[.int .i64 zv] 3)) rfl (.tmp 25) (.tmp 28) 23 rfl w.heap.size 3 i3 (.int .i64 0) 1 8 Tryz.underlying23 hi3 hiz0 hiz1 hiz2 rfl (by decide) (.slice avi lk.length cvi) lk.length (intCells lk) rfl (MB.alloc HM2.out _).i ⟨w2.heap.size, 0, none⟩ 1 1 (intCells [zv]) rfl rfl (at_newI w2 zv) (intCells_ones _) (by unfold maxLen; omega) (by omega) (Nat.le_trans hs2 (sza w2 _)) ?_; intro v3 w3 hown3 hgrow3; have k3 : w3.cell? ⟨Mb, 2, none⟩ = some (.slice avi lk.length cvi) := ((MB.alloc HM2.out _).b.turns (grown_turns hgrow3) (owns_ne HM2.out.i HM2.out.b (by decide))).cell rfl; have f3 := ((MB.alloc HM2.out _).b.turns (grown_turns hgrow3) (owns_ne HM2.out.i HM2.out.b (by decide))).free 2; obtain ⟨av3, cv3, hv3⟩ := owns_slice hown3; subst hv3) | (go_simp; go_at_call 75; refine HG2.out.mono ?_; rintro e w2 ⟨ht2, (⟨r2, hq2, rfl, hR2⟩ | ⟨hq2, u, pv, rfl⟩)⟩; rotate_left; (have HF : Hid (Turns (fun b => b = R) w w2 ∧ readOk l = false) := ⟨HTD.out.trans ht2, HFN.out hq2⟩; go_wp2; exact ⟨rfl, HF.out.1, .inr ⟨HF.out.2, _, _, rfl⟩⟩); (try dsimp only); have HM2 : Hid (MB w2 w.heap.size w.heap.size Mb ⟨(kL : Int), ss, lk, [], [], zz⟩ (.slice avi lk.length cvi) (.slice none 0 0) (.slice none 0 0) []) := (HM.out.drew).kept HR.out.drew.bk.choose_spec (by decide) (by decide) (by decide) (by decide) (by decide) ht2; have HR2 : Hid (Rd B w2 R l r2) := hR2; have HT2 : Hid (Turns (fun b => b = R) w w2) := HTD.out.trans ht2; have hs2 : w.heap.size ≤ w2.heap.size := HT2.out.size; have k2 : w2.cell? ⟨Mb, 2, none⟩ = some (.slice avi lk.length cvi) := HM2.out.b.cell rfl; have k2a : (w2.alloc (.cells #[.int .i64 zv] 3)).cell? ⟨Mb, 2, none⟩ = some (.slice avi lk.length cvi) := (MB.alloc HM2.out _).b.cell rfl; have HE2 : Hid (nxt l 2 (some r) = some r2) := hq2; clear ht2 hR2 hq2))
   all_goals
    have HM3 : Hid (MB (w3.setCell ⟨Mb, 2, none⟩ (.slice av3 (lk.length + 1) cv3)) w.heap.size w.heap.size Mb ⟨(kL : Int), ss, (lk ++ [zv]), [], [], zz⟩ (.slice av3 (lk.length + 1) cv3) (.slice none 0 0) (.slice none 0 0) []) := (MB.alloc HM2.out _).putI hown3 hgrow3
    have HR3 : Hid (Rd B (w3.setCell ⟨Mb, 2, none⟩ (.slice av3 (lk.length + 1) cv3)) R l r2) := ((HR2.out.alloc _).turns (grown_turns hgrow3) (fun e => owns_ne HM2.out.i HR2.out.bk.choose_spec (by decide) e) (fun j e => Nat.le_trans hBw (row_ge HM2.out.i e))).put hMB hMR _ _
    have HT3 : Hid (Turns (fun b => b = R) w (w3.setCell ⟨Mb, 2, none⟩ (.slice av3 (lk.length + 1) cv3))) := ((HT2.out.alloc _).grownNew hgrow3 (fun j e => row_ge HM2.out.i e)).setNew (by omega) _ _
    clear hown3 hgrow3 k2 k2a k3 f3 k0
    generalize w3.setCell ⟨Mb, 2, none⟩ (.slice av3 (lk.length + 1) cv3) = V3 at HM3 HR3 HT3 ⊢
    go_wp2
    go_roundw
    case rel => exact ⟨k + 1, _, r2, by omega, by go_num, by rw [HE.out]; exact HE2.out, by rw [HE.out, ← HZV.out]; exact HM3.out, HR3.out, HT3.out⟩
    case measure => simp [intOf]; omega
  ·obtain rfl : kL = k := by omega
   have HM5 : Hid (MB wr w.heap.size w.heap.size Mb ⟨(kL : Int), ss, (rI l).1, [], [], zz⟩ vi (.slice none 0 0) (.slice none 0 0) []) := (by rw [HRI.out]; exact HM.out : MB wr w.heap.size w.heap.size Mb ⟨(kL : Int), ss, (rI l).1, [], [], zz⟩ vi (.slice none 0 0) (.slice none 0 0) [])
   have HR5 : Hid (Rd B wr R l r) := HR.out
   have HT5 : Hid (Turns (fun b => b = R) w wr) := HT.out
   have HRI2 : Hid ((rI l).2 = some r) := (by rw [HRI.out]; exact Hr.out : (rI l).2 = some r)
   rw [HRI2.out] at HRH
   clear HM HR HT Hr HE
   obtain ⟨p6, hp6⟩ : ∃ p6, p6 = r := ⟨_, rfl⟩
   rw [← hp6] at HRH HR5 HRI2
   clear hp6 hlt hk
   go_wp2
   go_loopw [33] (fun i wr => ∃ (k : Nat) (vh : Value) (us : List Value) (r : Nat), k ≤ kK ∧ i = .int .i64 k ∧ (runG (fR l) (some p6) k).2 = some r ∧ MB wr w.heap.size w.heap.size Mb ⟨(kL : Int), ss, (rI l).1, (runG (fR l) (some p6) k).1, [], zz⟩ vi vh (.slice none 0 0) us ∧ Rd B wr R l r ∧ Turns (fun b => b = R) w wr) (fun i _ => kK - (intOf i).toNat)
   case atStart => exact ⟨0, _, _, p6, Nat.zero_le _, rfl, rfl, HM5.out, HR5.out, HT5.out⟩
   case round =>
    clear HM5 HR5 HT5
    obtain ⟨k, vh, us, r, hk, rfl, hr, hM, hR, hT⟩ := hrel
    have HM : Hid (MB wr w.heap.size w.heap.size Mb ⟨(kL : Int), ss, (rI l).1, (runG (fR l) (some p6) k).1, [], zz⟩ vi vh (.slice none 0 0) us) := hM
    have HR : Hid (Rd B wr R l r) := hR
    have HT : Hid (Turns (fun b => b = R) w wr) := hT
    have Hr : Hid ((runG (fR l) (some p6) k).2 = some r) := hr
    have hsz : w.heap.size ≤ wr.heap.size := hT.size
    have HE : Hid (runG (fR l) (some p6) (k + 1) = ((runG (fR l) (some p6) k).1 ++ [(fR l k (some r)).1], (fR l k (some r)).2)) := run_some hr
    clear hM hR hT hr
    by_cases hlt : k < kK
    ·have hki : (k : Int) < (kK : Int) := by omega
     have hlk := run_length (fR l) (some p6) k
     generalize (runG (fR l) (some p6) k).1 = lk at HM HE hlk
     obtain ⟨avh, cvh, hvh⟩ := owns_slice HM.out.h
     have k0 : wr.cell? ⟨Mb, 3, none⟩ = some vh := HM.out.b.cell rfl
     have HG2 : Hid (Calls Tryz.prog 76 #[.pointer (some ⟨R, 0, none⟩)] wr.drew fun e w' => Turns (fun b => b = R) wr.drew w' ∧ ((∃ q y, (fR l k (some r)).2 = some q ∧ e = .returned y ∧ w'.ownsRow wr.heap.size 39 4 y (fR l k (some r)).1.length (cellsO (fR l k (some r)).1) ∧ Rd B w' R l q) ∨ ((fR l k (some r)).2 = none ∧ Pan e))) := rhandler_any B R l k r wr.drew hl HR.out.drew
     have HTD : Hid (Turns (fun b => b = R) w wr.drew) := ⟨HT.out.os, HT.out.tape, HT.out.output, HT.out.size, HT.out.block⟩
     have HFN : Hid ((fR l k (some r)).2 = none → readOk l = false) := fun hq2 => rOk_H (by
      have h2 : (runG (fR l) (some p6) (k + 1)).2 = none := by rw [HE.out]; exact hq2
      rw [HRH.out, run_none h2 kK (by omega)]; exact h2)
     have HOL : Hid (∀ i k, i < lk.length → (uAt us i).ownBlock = some k → k < wr.heap.size) := HM.out.u.old
     generalize fR l k (some r) = ff at HG2 HFN HE
     obtain ⟨rr, f2⟩ := ff
     subst hvh
     go_wp2_with fail
     go_region_law (first | (have hq := HM2; refine step_append_own (w := w2.alloc (.cells #[.slice ay rr.length cy] 37)) rfl (.tmp 36) (.tmp 39) 24 rfl w.heap.size 37 i6 (.slice none 0 0) 1 24 Tryz.underlying24 hi6 hjz0 hjz1 hjz2 rfl (by decide) (.slice avh lk.length cvh) lk.length us rfl (MB.alloc HM2.out _).h ⟨w2.heap.size, 0, none⟩ 1 1 [.slice ay rr.length cy] rfl rfl (at_newS w2 _ _) (slice_ones _ _ _) (by unfold maxLen; omega) (by omega) (Nat.le_trans hs2 (sza w2 _)) ?_; intro v3 w3 hown3 hgrow3; have k3 : w3.cell? ⟨Mb, 3, none⟩ = some (.slice avh lk.length cvh) := ((MB.alloc HM2.out _).b.turns (grown_turns hgrow3) (owns_ne HM2.out.h HM2.out.b (by decide))).cell rfl; have f3 := ((MB.alloc HM2.out _).b.turns (grown_turns hgrow3) (owns_ne HM2.out.h HM2.out.b (by decide))).free 3; obtain ⟨av3, cv3, hv3⟩ := owns_slice hown3; subst hv3) | (go_simp; go_at_call 76; refine HG2.out.mono ?_; rintro e w2 ⟨ht2, (⟨r2, y, hq2, rfl, ho2, hR2⟩ | ⟨hq2, u, pv, rfl⟩)⟩; rotate_left; (have HF : Hid (Turns (fun b => b = R) w w2 ∧ readOk l = false) := ⟨HTD.out.trans ht2, HFN.out hq2⟩; go_wp2; exact ⟨rfl, HF.out.1, .inr ⟨HF.out.2, _, _, rfl⟩⟩); (try dsimp only); obtain ⟨ay, cy, hy⟩ := owns_slice ho2; subst hy; have HO2 : Hid (w2.ownsRow wr.heap.size 39 4 (.slice ay rr.length cy) rr.length (cellsO rr)) := ho2; have HM2 : Hid (MB w2 w.heap.size w.heap.size Mb ⟨(kL : Int), ss, (rI l).1, lk, [], zz⟩ vi (.slice avh lk.length cvh) (.slice none 0 0) us) := (HM.out.drew).kept HR.out.drew.bk.choose_spec (by decide) (by decide) (by decide) (by decide) (by decide) ht2; have HR2 : Hid (Rd B w2 R l r2) := hR2; have HT2 : Hid (Turns (fun b => b = R) w w2) := HTD.out.trans ht2; have hs2 : w.heap.size ≤ w2.heap.size := HT2.out.size; have k2 : w2.cell? ⟨Mb, 3, none⟩ = some (.slice avh lk.length cvh) := HM2.out.b.cell rfl; have k2a : (w2.alloc (.cells #[.slice ay rr.length cy] 37)).cell? ⟨Mb, 3, none⟩ = some (.slice avh lk.length cvh) := (MB.alloc HM2.out _).b.cell rfl; have HE2 : Hid (f2 = some r2) := hq2; clear ht2 hR2 hq2 ho2))
     all_goals
      have HM3 : Hid (MB (w3.setCell ⟨Mb, 3, none⟩ (.slice av3 (lk.length + 1) cv3)) w.heap.size w.heap.size Mb ⟨(kL : Int), ss, (rI l).1, (lk ++ [rr]), [], zz⟩ vi (.slice av3 (lk.length + 1) cv3) (.slice none 0 0) (us ++ [.slice ay rr.length cy])) := (MB.alloc HM2.out _).putH (World.ownsRow.alloc HO2.out _) hsz HOL.out hown3 hgrow3
      have HR3 : Hid (Rd B (w3.setCell ⟨Mb, 3, none⟩ (.slice av3 (lk.length + 1) cv3)) R l r2) := ((HR2.out.alloc _).turns (grown_turns hgrow3) (fun e => owns_ne HM2.out.h HR2.out.bk.choose_spec (by decide) e) (fun j e => Nat.le_trans hBw (row_ge HM2.out.h e))).put hMB hMR _ _
      have HT3 : Hid (Turns (fun b => b = R) w (w3.setCell ⟨Mb, 3, none⟩ (.slice av3 (lk.length + 1) cv3))) := ((HT2.out.alloc _).grownNew hgrow3 (fun j e => row_ge HM2.out.h e)).setNew (by omega) _ _
      clear hown3 hgrow3 k2 k2a k3 f3 k0
      generalize w3.setCell ⟨Mb, 3, none⟩ (.slice av3 (lk.length + 1) cv3) = V3 at HM3 HR3 HT3 ⊢
      go_wp2
      go_roundw
      case rel => exact ⟨k + 1, _, _, r2, by omega, by go_num, by rw [HE.out]; exact HE2.out, by rw [HE.out]; exact HM3.out, HR3.out, HT3.out⟩
      case measure => simp [intOf]; omega
    ·obtain rfl : kK = k := by omega
     have HM5 : Hid (MB wr w.heap.size w.heap.size Mb ⟨(kL : Int), ss, (rI l).1, (rH l).1, [], zz⟩ vi vh (.slice none 0 0) us) := (by rw [HRH.out]; exact HM.out : MB wr w.heap.size w.heap.size Mb ⟨(kL : Int), ss, (rI l).1, (rH l).1, [], zz⟩ vi vh (.slice none 0 0) us)
     have HR5 : Hid (Rd B wr R l r) := HR.out
     have HT5 : Hid (Turns (fun b => b = R) w wr) := HT.out
     have HRH2 : Hid ((rH l).2 = some r) := (by rw [HRH.out]; exact Hr.out : (rH l).2 = some r)
     rw [HRH2.out] at HRE
     clear HM HR HT Hr HE
     obtain ⟨p7, hp7⟩ : ∃ p7, p7 = r := ⟨_, rfl⟩
     rw [← hp7] at HRE HR5 HRH2
     clear hp7 hlt hk
     go_wp2
     go_loopw [44] (fun i wr => ∃ (k : Nat) (vs : Value) (r : Nat), k ≤ kS ∧ i = .int .i64 k ∧ (runG (fE l) (some p7) k).2 = some r ∧ MB wr w.heap.size w.heap.size Mb ⟨(kL : Int), ss, (rI l).1, (rH l).1, (runG (fE l) (some p7) k).1, zz⟩ vi vh vs us ∧ Rd B wr R l r ∧ Turns (fun b => b = R) w wr) (fun i _ => kS - (intOf i).toNat)
     case atStart => exact ⟨0, _, p7, Nat.zero_le _, rfl, rfl, HM5.out, HR5.out, HT5.out⟩
     case round =>
      clear HM5 HR5 HT5
      obtain ⟨k, vs, r, hk, rfl, hr, hM, hR, hT⟩ := hrel
      have HM : Hid (MB wr w.heap.size w.heap.size Mb ⟨(kL : Int), ss, (rI l).1, (rH l).1, (runG (fE l) (some p7) k).1, zz⟩ vi vh vs us) := hM
      have HR : Hid (Rd B wr R l r) := hR
      have HT : Hid (Turns (fun b => b = R) w wr) := hT
      have Hr : Hid ((runG (fE l) (some p7) k).2 = some r) := hr
      have hsz : w.heap.size ≤ wr.heap.size := hT.size
      have HE : Hid (runG (fE l) (some p7) (k + 1) = ((runG (fE l) (some p7) k).1 ++ [(fE l k (some r)).1], (fE l k (some r)).2)) := run_some hr
      clear hM hR hT hr
      by_cases hlt : k < kS
      ·have hki : (k : Int) < (kS : Int) := by omega
       have hlk := run_length (fE l) (some p7) k
       generalize (runG (fE l) (some p7) k).1 = lk at HM HE hlk
       obtain ⟨avs, cvs, hvs⟩ := owns_slice HM.out.e
       have k0 : wr.cell? ⟨Mb, 4, none⟩ = some vs := HM.out.b.cell rfl
       have HG := rstart_any B R l k r wr.drew hl HR.out.drew
       have HTD : Hid (Turns (fun b => b = R) w wr.drew) := ⟨HT.out.os, HT.out.tape, HT.out.output, HT.out.size, HT.out.block⟩
       have HFN : Hid ((fE l k (some r)).2 = none → readOk l = false) := fun hq2 => rOk_E (by
        have h2 : (runG (fE l) (some p7) (k + 1)).2 = none := by rw [HE.out]; exact hq2
        rw [HRE.out, run_none h2 kS (by omega)]; exact h2)
       generalize fE l k (some r) = ff at HG HFN HE
       obtain ⟨⟨e0, e1, e2, e3, e4, e5, e6⟩, f2⟩ := ff
       have HG2 : Hid (Calls Tryz.prog 77 #[.pointer (some ⟨R, 0, none⟩), .int .i64 (k : Int)] wr.drew fun e w' => Turns (fun b => b = R) wr.drew w' ∧ ((∃ q, f2 = some q ∧ e = .returned (.agg #[.int .i64 e0, .int .i64 e1, .int .i64 e2, .int .i64 e3, .int .i64 e4, .int .i64 e5, .int .i64 e6]) ∧ Rd B w' R l q) ∨ (f2 = none ∧ Pan e))) := HG
       clear HG
       subst hvs
       go_wp2_with fail
       go_region_law (first | (have hq := HM2; refine step_append_own (w := w2.alloc (.cells #[.int .i64 e0, .int .i64 e1, .int .i64 e2, .int .i64 e3, .int .i64 e4, .int .i64 e5, .int .i64 e6] 53)) rfl (.tmp 48) (.tmp 52) 25 rfl w.heap.size 53 i7 (.agg #[.int .i64 0, .int .i64 0, .int .i64 0, .int .i64 0, .int .i64 0, .int .i64 0, .int .i64 0]) 7 56 Tryz.underlying25 hi7 hez0 hez1 hez2 rfl (by decide) (.slice avs lk.length cvs) lk.length (cellsL lk) rfl (MB.alloc HM2.out _).e ⟨w2.heap.size, 0, none⟩ 1 1 (cellsL [⟨e0, e1, e2, e3, e4, e5, e6⟩]) rfl rfl (at_newE w2 ⟨e0, e1, e2, e3, e4, e5, e6⟩) (cellsL_one _) (by unfold maxLen; omega) (by omega) (Nat.le_trans hs2 (sza w2 _)) ?_; intro v3 w3 hown3 hgrow3; have k3 : w3.cell? ⟨Mb, 4, none⟩ = some (.slice avs lk.length cvs) := ((MB.alloc HM2.out _).b.turns (grown_turns hgrow3) (owns_ne HM2.out.e HM2.out.b (by decide))).cell rfl; have f3 := ((MB.alloc HM2.out _).b.turns (grown_turns hgrow3) (owns_ne HM2.out.e HM2.out.b (by decide))).free 4; obtain ⟨av3, cv3, hv3⟩ := owns_slice hown3; subst hv3) | (go_simp; go_at_call 77; refine HG2.out.mono ?_; rintro e w2 ⟨ht2, (⟨r2, hq2, rfl, hR2⟩ | ⟨hq2, u, pv, rfl⟩)⟩; rotate_left; (have HF : Hid (Turns (fun b => b = R) w w2 ∧ readOk l = false) := ⟨HTD.out.trans ht2, HFN.out hq2⟩; go_wp2; exact ⟨rfl, HF.out.1, .inr ⟨HF.out.2, _, _, rfl⟩⟩); (try dsimp only); have HM2 : Hid (MB w2 w.heap.size w.heap.size Mb ⟨(kL : Int), ss, (rI l).1, (rH l).1, lk, zz⟩ vi vh (.slice avs lk.length cvs) us) := (HM.out.drew).kept HR.out.drew.bk.choose_spec (by decide) (by decide) (by decide) (by decide) (by decide) ht2; have HR2 : Hid (Rd B w2 R l r2) := hR2; have HT2 : Hid (Turns (fun b => b = R) w w2) := HTD.out.trans ht2; have hs2 : w.heap.size ≤ w2.heap.size := HT2.out.size; have k2 : w2.cell? ⟨Mb, 4, none⟩ = some (.slice avs lk.length cvs) := HM2.out.b.cell rfl; have k2a : (w2.alloc (.cells #[.int .i64 e0, .int .i64 e1, .int .i64 e2, .int .i64 e3, .int .i64 e4, .int .i64 e5, .int .i64 e6] 53)).cell? ⟨Mb, 4, none⟩ = some (.slice avs lk.length cvs) := (MB.alloc HM2.out _).b.cell rfl; have HE2 : Hid (f2 = some r2) := hq2; clear ht2 hR2 hq2))
       all_goals
        have HM3 : Hid (MB (w3.setCell ⟨Mb, 4, none⟩ (.slice av3 (lk.length + 1) cv3)) w.heap.size w.heap.size Mb ⟨(kL : Int), ss, (rI l).1, (rH l).1, (lk ++ [⟨e0, e1, e2, e3, e4, e5, e6⟩]), zz⟩ vi vh (.slice av3 (lk.length + 1) cv3) us) := (MB.alloc HM2.out _).putE hown3 hgrow3
        have HR3 : Hid (Rd B (w3.setCell ⟨Mb, 4, none⟩ (.slice av3 (lk.length + 1) cv3)) R l r2) := ((HR2.out.alloc _).turns (grown_turns hgrow3) (fun e => owns_ne HM2.out.e HR2.out.bk.choose_spec (by decide) e) (fun j e => Nat.le_trans hBw (row_ge HM2.out.e e))).put hMB hMR _ _
        have HT3 : Hid (Turns (fun b => b = R) w (w3.setCell ⟨Mb, 4, none⟩ (.slice av3 (lk.length + 1) cv3))) := ((HT2.out.alloc _).grownNew hgrow3 (fun j e => row_ge HM2.out.e e)).setNew (by omega) _ _
        clear hown3 hgrow3 k2 k2a k3 f3 k0
        generalize w3.setCell ⟨Mb, 4, none⟩ (.slice av3 (lk.length + 1) cv3) = V3 at HM3 HR3 HT3 ⊢
        go_wp2
        go_roundw
        case rel => exact ⟨k + 1, _, r2, by omega, by go_num, by rw [HE.out]; exact HE2.out, by rw [HE.out]; exact HM3.out, HR3.out, HT3.out⟩
        case measure => simp [intOf]; omega
      ·obtain rfl : kS = k := by omega
       have HM6 : Hid (MB wr w.heap.size w.heap.size Mb ⟨(kL : Int), ss, (rI l).1, (rH l).1, (rE l).1, zz⟩ vi vh vs us) := (by rw [HRE.out]; exact HM.out : MB wr w.heap.size w.heap.size Mb ⟨(kL : Int), ss, (rI l).1, (rH l).1, (rE l).1, zz⟩ vi vh vs us)
       have hMD : (⟨(kL : Int), ss, (rI l).1, (rH l).1, (rE l).1, zz⟩ : Md) = rdM l := (HMD.out _ _ _).trans rfl
       rw [hMD] at HM6
       have HR6 : Hid (Rd B wr R l r) := HR.out
       have HT6 : Hid (Turns (fun b => b = R) w wr) := HT.out
       have HRE2 : Hid ((rE l).2 = some r) := (by rw [HRE.out]; exact Hr.out : (rE l).2 = some r)
       clear HM HR HT Hr HE hMD
       obtain ⟨ai, ci, hvi⟩ := owns_slice HM6.out.i
       obtain ⟨ah, ch, hvh⟩ := owns_slice HM6.out.h
       obtain ⟨ae, ce, hve⟩ := owns_slice HM6.out.e
       subst hvi hvh hve
       obtain ⟨_, a, cap, hB, hr1, _⟩ := HR6.out
       have c0 := hB.cell (i := 0) rfl
       clear hlt hk
       by_cases hrl : r = l.length
       ·subst hrl
        rw [show l.length - l.length = 0 from Nat.sub_self _] at c0
        have b0 := HM6.out.b.cell (i := 0) rfl
        have b1 := HM6.out.b.cell (i := 1) rfl
        have b2 := HM6.out.b.cell (i := 2) rfl
        have b3 := HM6.out.b.cell (i := 3) rfl
        have b4 := HM6.out.b.cell (i := 4) rfl
        have b5 := HM6.out.b.cell (i := 5) rfl
        have HOK : Hid (readOk l = (rdM l).ok) := (by simp [readOk, HRE2.out] : readOk l = (rdM l).ok)
        clear hB
        go_wp2_with fail
        refine (iModM _ (rdM l) _ (small_rdM l) HM6.out.isM).mono ?_
        rintro e w7 ⟨rfl, hb7⟩
        have HM7 : Hid (MB w7 w.heap.size w.heap.size Mb (rdM l) (.slice ai (rdM l).i.length ci) (.slice ah (rdM l).h.length ch) (.slice ae (rdM l).e.length ce) us) := HM6.out.below hb7
        have HT7 : Hid (Turns (fun b => b = R) w w7) := HT6.out.trans (Turns.of_below hb7)
        clear hb7 HM6 HT6 HR6 c0 b0 b1 b2 b3 b4 b5
        cases hok : (rdM l).ok with
        | false =>
         have HF : Hid (Turns (fun b => b = R) w w7 ∧ readOk l = false) := ⟨HT7.out, HOK.out.trans hok⟩
         clear hok HOK
         go_wp2
         exact ⟨rfl, HF.out.1, .inr ⟨HF.out.2, _, _, rfl⟩⟩
        | true =>
         have HOT : Hid (readOk l = true) := HOK.out.trans hok
         clear hok HOK
         have b0 := HM7.out.b.cell (i := 0) rfl
         have b1 := HM7.out.b.cell (i := 1) rfl
         have b2 := HM7.out.b.cell (i := 2) rfl
         have b3 := HM7.out.b.cell (i := 3) rfl
         have b4 := HM7.out.b.cell (i := 4) rfl
         have b5 := HM7.out.b.cell (i := 5) rfl
         have q0 := HM7.out.r.cell (i := 0) rfl
         have q1 := HM7.out.r.cell (i := 1) rfl
         have q2 := HM7.out.r.cell (i := 2) rfl
         have q3 := HM7.out.r.cell (i := 3) rfl
         have q4 := HM7.out.r.cell (i := 4) rfl
         have q5 := HM7.out.r.cell (i := 5) rfl
         have qf := HM7.out.r.free
         go_wp2
         clear q0 q1 q2 q3 q4 q5 qf b0 b1 b2 b3 b4 b5
         obtain ⟨X5, hX5⟩ : ∃ X5, put6 w7 w.heap.size (.int .i64 (rdM l).n) (.int .i64 (rdM l).s) (.slice ai (rdM l).i.length ci) (.slice ah (rdM l).h.length ch) (.slice ae (rdM l).e.length ce) (.int .i64 (rdM l).z) = X5 := ⟨_, rfl⟩
         have hP := HM7.out.r.put6 (.int .i64 (rdM l).n) (.int .i64 (rdM l).s) (.slice ai (rdM l).i.length ci) (.slice ah (rdM l).h.length ch) (.slice ae (rdM l).e.length ce) (.int .i64 (rdM l).z)
         have ht := put6_turns w7 w.heap.size (.int .i64 (rdM l).n) (.int .i64 (rdM l).s) (.slice ai (rdM l).i.length ci) (.slice ah (rdM l).h.length ch) (.slice ae (rdM l).e.length ce) (.int .i64 (rdM l).z)
         rw [hX5] at hP ht
         unfold put6 at hX5
         rw [hX5]
         have t0 := hP.cell (i := 0) rfl
         have t1 := hP.cell (i := 1) rfl
         have t2 := hP.cell (i := 2) rfl
         have t3 := hP.cell (i := 3) rfl
         have t4 := hP.cell (i := 4) rfl
         have t5 := hP.cell (i := 5) rfl
         refine bodyPost_ret (v := .agg #[.int .i64 (rdM l).n, .int .i64 (rdM l).s, .slice ai (rdM l).i.length ci, .slice ah (rdM l).h.length ch, .slice ae (rdM l).e.length ce, .int .i64 (rdM l).z]) (by simp [results, Tryz.results40, go_sem, t0, t1, t2, t3, t4, t5]) rfl ⟨HT7.out.trans' ht (Nat.le_refl _), .inl ⟨HOT.out, _, _, _, us, rfl, HM7.out.mo ht⟩⟩
       ·obtain ⟨d, hd⟩ : ∃ d, l.length - r = d + 1 := ⟨l.length - r - 1, by omega⟩
        rw [hd] at c0
        have HF : Hid (Turns (fun b => b = R) w wr ∧ readOk l = false) := ⟨HT6.out, (by simp [readOk, HRE2.out, hrl] : readOk l = false)⟩
        clear hB
        go_wp2
        exact ⟨rfl, HF.out.1, .inr ⟨HF.out.2, _, _, rfl⟩⟩
end Go.Proofs.YtbljfphdghfkfaaGreatDoor
