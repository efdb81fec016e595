/- A bent model: what it is in memory. -/
import Derived.Test.YtbljfphdghfkfaaGreatDoorModelsCardG28
namespace Go.Proofs.YtbljfphdghfkfaaGreatDoor
open Go.RowKit
theorem MB.ofMO {w : World} {B B' Rb Mb : Nat} {m : Md} {vi vh vs : Value} {us : List Value} (g : MO w B' m vi vh vs us) (hB : B ≤ B') (ne : Rb ≠ Mb) (r : Bk w Rb 27 Z6) (b : Bk w Mb 27 #[.int .i64 m.n, .int .i64 m.s, vi, vh, vs, .int .i64 m.z]) : MB w B Rb Mb m vi vh vs us :=
 ⟨ne, r, b, owns_mono g.i hB, owns_mono g.h hB, ⟨g.u.1, fun i hi => owns_mono (g.u.2.1 i hi) hB, g.u.2.2⟩, owns_mono g.e hB⟩
theorem MB.row0 {w : World} {B Rb Mb gh n ch : Nat} {m : Md} {vi vs : Value} {us : List Value} (g : MB w B Rb Mb m vi (.slice (some ⟨gh, 0, none⟩) n ch) vs us) (hn : 0 < m.h.length) : w.cell? ⟨gh, 0, none⟩ = some (uAt us 0) ∧ w.frozen? ⟨gh, 0, none⟩ = false := by
 obtain ⟨g', cap, hv, _, hc, hf⟩ := owns_some g.h hn
 obtain rfl : gh = g' := by simpa [Value.ownBlock] using congrArg Value.ownBlock hv
 refine ⟨?_, hf 0⟩
 rw [hc 0 (by omega)]
 have : 0 < us.length := by rw [g.u.1]; exact hn
 simp [uAt, this]
theorem MO.alloc {w : World} {B : Nat} {m : Md} {vi vh vs : Value} {us : List Value} (g : MO w B m vi vh vs us) (o : Obj) : MO (w.alloc o) B m vi vh vs us :=
 ⟨g.i.alloc o, g.h.alloc o, g.u.alloc o, g.e.alloc o⟩
set_option maxRecDepth 100000 in
set_option maxHeartbeats 32000000 in
theorem l2bent_any (c : Nat) (w : World) (H : Cur w c) :
  Calls Tryz.prog 24 #[.pointer (some ⟨c, 0, none⟩)] w fun e w' => ∃ (m : Md) (x : Value), e = .returned x ∧ MdF (fun k => w.heap.size ≤ k ∧ k < w'.heap.size) w' x m ∧ Tiny m ∧ Cur w' c ∧ Turns (fun k => k = c) w w' := by
 have hcw : c < w.heap.size := H.lt
 obtain ⟨i8, hi8, hoz0, hoz1, hoz2⟩ := info_parts infoOp
 obtain ⟨W0, hW0⟩ : ∃ W0, w.alloc (.cells #[.int .i64 0, .int .i64 0, .slice none 0 0, .slice none 0 0, .slice none 0 0, .int .i64 0] 27) = W0 := ⟨_, rfl⟩
 have HR0 : Hid (Bk W0 w.heap.size 27 #[.int .i64 0, .int .i64 0, .slice none 0 0, .slice none 0 0, .slice none 0 0, .int .i64 0]) := hW0 ▸ Bk.new w _ _
 have HC0 : Hid (Cur W0 c) := hW0 ▸ H.alloc _
 have HT0 : Hid (Turns (fun k => k = c) w W0) := hW0 ▸ (Turns.refl _ w).alloc _
 have HW0 : Hid (w.alloc (.cells #[.int .i64 0, .int .i64 0, .slice none 0 0, .slice none 0 0, .slice none 0 0, .int .i64 0] 27) = W0) := hW0
 have hs0 : w.heap.size ≤ W0.heap.size := HT0.out.size
 clear hW0 H
 go_enter Tryz.func24, Tryz.ntmps24
 go_wp2_with fail
 rw [HW0.out]
 clear HW0
 refine (l2draw_any c _ HC0.out).mono ?_
 rintro e w1 ⟨m, vi, vh, vs, us, rfl, hok, hMO, he1, hC, hT⟩
 obtain ⟨ai, ci, hvi⟩ := owns_slice hMO.i
 obtain ⟨ah, ch, hvh⟩ := owns_slice hMO.h
 obtain ⟨ae, ce, hve⟩ := owns_slice hMO.e
 subst hvi hvh hve
 have htiny := tiny_ok hok
 have hok' := hok
 have hd : m.hd := by
  simp only [Md.ok, Bool.and_eq_true, decide_eq_true_eq] at hok
  exact hok.1.1.1
 have HI1 : Hid (0 < m.i.length) := (by have := hd.1; have := hd.2.2.2.2.1; omega : 0 < m.i.length)
 have HH1 : Hid (0 < m.h.length) := (by have := hd.2.2.2.2.2.1; omega : 0 < m.h.length)
 have HE1 : Hid (0 < m.e.length) := he1
 have HO8 : Hid (∀ j, (hAt m.h j).length ≤ 8) := ok_rows8 hok'
 have HTY : Hid (Tiny m) := htiny
 obtain ⟨Mb, hMb⟩ : ∃ Mb, Mb = w1.heap.size := ⟨_, rfl⟩
 have hR1 := HR0.out.turns hT (by omega)
 have hMw : w.heap.size < Mb := by have := hR1.lt; omega
 have hMc : c < Mb := by omega
 have HMb : Hid (Mb = w1.heap.size) := hMb
 obtain ⟨W1, hW1⟩ : ∃ W1, w1.alloc (.cells #[.int .i64 m.n, .int .i64 m.s, .slice ai m.i.length ci, .slice ah m.h.length ch, .slice ae m.e.length ce, .int .i64 m.z] 27) = W1 := ⟨_, rfl⟩
 have HD1 : Hid ((MB W1 w.heap.size w.heap.size Mb m (.slice ai m.i.length ci) (.slice ah m.h.length ch) (.slice ae m.e.length ce) us) ∧ Cur W1 c ∧ Turns (fun k => k = c) w W1) := hW1 ▸ ⟨MB.ofMO (hMO.alloc _) hs0 (by omega) (hR1.alloc _) (hMb ▸ Bk.new w1 _ _), hC.alloc _, (HT0.out.trans hT).alloc _⟩
 have HW1 : Hid (w1.alloc (.cells #[.int .i64 m.n, .int .i64 m.s, .slice ai m.i.length ci, .slice ah m.h.length ch, .slice ae m.e.length ce, .int .i64 m.z] 27) = W1) := hW1
 clear hok hok' hMO he1 hC hT htiny hd hMb hR1 hW1 HR0 HC0 HT0
 go_wp2_with fail
 rw [HW1.out, ← HMb.out]
 clear HW1 HMb
 refine (once_any c _ _ HD1.out.2.1).mono ?_
 rintro e w2 ⟨q, rfl, hC, hT⟩
 have HD2 : Hid ((MB w2 w.heap.size w.heap.size Mb m (.slice ai m.i.length ci) (.slice ah m.h.length ch) (.slice ae m.e.length ce) us) ∧ Cur w2 c ∧ Turns (fun k => k = c) w w2) := ⟨HD1.out.1.keptC hcw (Nat.le_refl _) (by omega) hT, hC, HD1.out.2.2.trans hT⟩
 clear hC hT HD1
 cases q with
 | false =>
  have b0 := HD2.out.1.b.cell (i := 0) rfl
  have b1 := HD2.out.1.b.cell (i := 1) rfl
  have b2 := HD2.out.1.b.cell (i := 2) rfl
  have b3 := HD2.out.1.b.cell (i := 3) rfl
  have b4 := HD2.out.1.b.cell (i := 4) rfl
  have b5 := HD2.out.1.b.cell (i := 5) rfl
  have q0 := HD2.out.1.r.cell (i := 0) rfl
  have q1 := HD2.out.1.r.cell (i := 1) rfl
  have q2 := HD2.out.1.r.cell (i := 2) rfl
  have q3 := HD2.out.1.r.cell (i := 3) rfl
  have q4 := HD2.out.1.r.cell (i := 4) rfl
  have q5 := HD2.out.1.r.cell (i := 5) rfl
  have qf := HD2.out.1.r.free
  go_wp2
  clear q0 q1 q2 q3 q4 q5 qf b0 b1 b2 b3 b4 b5
  obtain ⟨X5, hX5⟩ : ∃ X5, put6 w2 w.heap.size (.int .i64 m.n) (.int .i64 m.s) (.slice ai m.i.length ci) (.slice ah m.h.length ch) (.slice ae m.e.length ce) (.int .i64 m.z) = X5 := ⟨_, rfl⟩
  have hP := HD2.out.1.r.put6 (.int .i64 m.n) (.int .i64 m.s) (.slice ai m.i.length ci) (.slice ah m.h.length ch) (.slice ae m.e.length ce) (.int .i64 m.z)
  have ht := put6_turns w2 w.heap.size (.int .i64 m.n) (.int .i64 m.s) (.slice ai m.i.length ci) (.slice ah m.h.length ch) (.slice ae m.e.length ce) (.int .i64 m.z)
  rw [hX5] at hP ht
  unfold put6 at hX5
  rw [hX5]
  have t0 := hP.cell (i := 0) rfl
  have t1 := hP.cell (i := 1) rfl
  have t2 := hP.cell (i := 2) rfl
  have t3 := hP.cell (i := 3) rfl
  have t4 := hP.cell (i := 4) rfl
  have t5 := hP.cell (i := 5) rfl
  refine bodyPost_ret (v := .agg #[.int .i64 m.n, .int .i64 m.s, .slice ai m.i.length ci, .slice ah m.h.length ch, .slice ae m.e.length ce, .int .i64 m.z]) (by simp [results, Tryz.results24, go_sem, t0, t1, t2, t3, t4, t5]) rfl ⟨m, _, rfl, (HD2.out.1.mo ht).mdf, HTY.out, HD2.out.2.1.turns ht (fun j hj => by omega), HD2.out.2.2.trans' ht (Nat.le_refl _)⟩
 | true =>
  go_wp2_with fail
  refine (below_any c _ _ HD2.out.2.1).mono ?_
  rintro e w3 ⟨x, rfl, hx0, hx1, hC, hT⟩
  have hx2 := hx1 (by omega)
  have HD3 : Hid ((MB w3 w.heap.size w.heap.size Mb m (.slice ai m.i.length ci) (.slice ah m.h.length ch) (.slice ae m.e.length ce) us) ∧ Cur w3 c ∧ Turns (fun k => k = c) w w3) := ⟨HD2.out.1.keptC hcw (Nat.le_refl _) (by omega) hT, hC, HD2.out.2.2.trans hT⟩
  have hx3 : x = 0 ∨ x = 1 ∨ x = 2 ∨ x = 3 ∨ x = 4 := by omega
  clear hx0 hx1 hx2 hC hT HD2
  rcases hx3 with rfl | rfl | rfl | rfl | rfl
  ·have HL : Hid (ListAt (w3.alloc (.cells #[.int .i64 0, .int .i64 1, .int .i64 4, .int .i64 5] 3)) w3.heap.size 4 (fun y => 0 ≤ y ∧ y ≤ 5)) := lstOf w3 3 [0, 1, 4, 5] _ (by decide)
   have HA : Hid ((MB (w3.alloc (.cells #[.int .i64 0, .int .i64 1, .int .i64 4, .int .i64 5] 3)) w.heap.size w.heap.size Mb m (.slice ai m.i.length ci) (.slice ah m.h.length ch) (.slice ae m.e.length ce) us) ∧ Cur (w3.alloc (.cells #[.int .i64 0, .int .i64 1, .int .i64 4, .int .i64 5] 3)) c ∧ Turns (fun k => k = c) w (w3.alloc (.cells #[.int .i64 0, .int .i64 1, .int .i64 4, .int .i64 5] 3))) := ⟨HD3.out.1.alloc _, HD3.out.2.1.alloc _, HD3.out.2.2.alloc _⟩
   have HS : Hid (w.heap.size ≤ w3.heap.size) := HD3.out.2.2.size
   go_wp2_with fail
   refine (pick_any c w3.heap.size 4 _ _ (by omega) (by omega) (by have := HS.out; omega) HA.out.2.1 HL.out).mono ?_
   rintro e w4 ⟨z1, rfl, z10, hC, hT⟩
   have HD4 : Hid ((MB w4 w.heap.size w.heap.size Mb m (.slice ai m.i.length ci) (.slice ah m.h.length ch) (.slice ae m.e.length ce) us) ∧ Cur w4 c ∧ Turns (fun k => k = c) w w4) := ⟨HA.out.1.keptC hcw (Nat.le_refl _) (by omega) hT, hC, HA.out.2.2.trans hT⟩
   clear hC hT HL HA HS HD3
   have g0 := HD4.out.1.b.cell (i := 0) rfl
   have gf := HD4.out.1.b.free 0
   obtain ⟨W5, hW⟩ : ∃ V, w4.setCell ⟨Mb, 0, none⟩ (.int .i64 z1) = V := ⟨_, rfl⟩
   have HD5 : Hid ((MB W5 w.heap.size w.heap.size Mb ⟨z1, m.s, m.i, m.h, m.e, m.z⟩ (.slice ai m.i.length ci) (.slice ah m.h.length ch) (.slice ae m.e.length ce) us) ∧ Cur W5 c ∧ Turns (fun k => k = c) w W5) := hW ▸ ⟨HD4.out.1.putL z1, HD4.out.2.1.put hMc _ _, HD4.out.2.2.setNew (by omega) _ _⟩
   have HWs := hW
   have b0 := HD5.out.1.b.cell (i := 0) rfl
   have b1 := HD5.out.1.b.cell (i := 1) rfl
   have b2 := HD5.out.1.b.cell (i := 2) rfl
   have b3 := HD5.out.1.b.cell (i := 3) rfl
   have b4 := HD5.out.1.b.cell (i := 4) rfl
   have b5 := HD5.out.1.b.cell (i := 5) rfl
   have q0 := HD5.out.1.r.cell (i := 0) rfl
   have q1 := HD5.out.1.r.cell (i := 1) rfl
   have q2 := HD5.out.1.r.cell (i := 2) rfl
   have q3 := HD5.out.1.r.cell (i := 3) rfl
   have q4 := HD5.out.1.r.cell (i := 4) rfl
   have q5 := HD5.out.1.r.cell (i := 5) rfl
   have qf := HD5.out.1.r.free
   go_wp2
   clear g0 gf hW HWs
   clear q0 q1 q2 q3 q4 q5 qf b0 b1 b2 b3 b4 b5
   obtain ⟨X5, hX5⟩ : ∃ X5, put6 W5 w.heap.size (.int .i64 z1) (.int .i64 m.s) (.slice ai m.i.length ci) (.slice ah m.h.length ch) (.slice ae m.e.length ce) (.int .i64 m.z) = X5 := ⟨_, rfl⟩
   have hP := HD5.out.1.r.put6 (.int .i64 z1) (.int .i64 m.s) (.slice ai m.i.length ci) (.slice ah m.h.length ch) (.slice ae m.e.length ce) (.int .i64 m.z)
   have ht := put6_turns W5 w.heap.size (.int .i64 z1) (.int .i64 m.s) (.slice ai m.i.length ci) (.slice ah m.h.length ch) (.slice ae m.e.length ce) (.int .i64 m.z)
   rw [hX5] at hP ht
   unfold put6 at hX5
   rw [hX5]
   have t0 := hP.cell (i := 0) rfl
   have t1 := hP.cell (i := 1) rfl
   have t2 := hP.cell (i := 2) rfl
   have t3 := hP.cell (i := 3) rfl
   have t4 := hP.cell (i := 4) rfl
   have t5 := hP.cell (i := 5) rfl
   refine bodyPost_ret (v := .agg #[.int .i64 z1, .int .i64 m.s, .slice ai m.i.length ci, .slice ah m.h.length ch, .slice ae m.e.length ce, .int .i64 m.z]) (by simp [results, Tryz.results24, go_sem, t0, t1, t2, t3, t4, t5]) rfl ⟨⟨z1, m.s, m.i, m.h, m.e, m.z⟩, _, rfl, (HD5.out.1.mo ht).mdf, HTY.out, HD5.out.2.1.turns ht (fun j hj => by omega), HD5.out.2.2.trans' ht (Nat.le_refl _)⟩
  ·have HL : Hid (ListAt (w3.alloc (.cells #[.int .i64 (-1), .int .i64 950, .int .i64 951] 3)) w3.heap.size 3 (fun y => -1 ≤ y ∧ y ≤ 951)) := lstOf w3 3 [-1, 950, 951] _ (by decide)
   have HA : Hid ((MB (w3.alloc (.cells #[.int .i64 (-1), .int .i64 950, .int .i64 951] 3)) w.heap.size w.heap.size Mb m (.slice ai m.i.length ci) (.slice ah m.h.length ch) (.slice ae m.e.length ce) us) ∧ Cur (w3.alloc (.cells #[.int .i64 (-1), .int .i64 950, .int .i64 951] 3)) c ∧ Turns (fun k => k = c) w (w3.alloc (.cells #[.int .i64 (-1), .int .i64 950, .int .i64 951] 3))) := ⟨HD3.out.1.alloc _, HD3.out.2.1.alloc _, HD3.out.2.2.alloc _⟩
   have HS : Hid (w.heap.size ≤ w3.heap.size) := HD3.out.2.2.size
   go_wp2_with fail
   refine (pick_any c w3.heap.size 3 _ _ (by omega) (by omega) (by have := HS.out; omega) HA.out.2.1 HL.out).mono ?_
   rintro e w4 ⟨z1, rfl, z10, hC, hT⟩
   have HD4 : Hid ((MB w4 w.heap.size w.heap.size Mb m (.slice ai m.i.length ci) (.slice ah m.h.length ch) (.slice ae m.e.length ce) us) ∧ Cur w4 c ∧ Turns (fun k => k = c) w w4) := ⟨HA.out.1.keptC hcw (Nat.le_refl _) (by omega) hT, hC, HA.out.2.2.trans hT⟩
   clear hC hT HL HA HS HD3
   have g0 := HD4.out.1.b.cell (i := 5) rfl
   have gf := HD4.out.1.b.free 5
   obtain ⟨W5, hW⟩ : ∃ V, w4.setCell ⟨Mb, 5, none⟩ (.int .i64 z1) = V := ⟨_, rfl⟩
   have HD5 : Hid ((MB W5 w.heap.size w.heap.size Mb ⟨m.n, m.s, m.i, m.h, m.e, z1⟩ (.slice ai m.i.length ci) (.slice ah m.h.length ch) (.slice ae m.e.length ce) us) ∧ Cur W5 c ∧ Turns (fun k => k = c) w W5) := hW ▸ ⟨HD4.out.1.putN z1, HD4.out.2.1.put hMc _ _, HD4.out.2.2.setNew (by omega) _ _⟩
   have HL : Hid (ListAt (W5.alloc (.cells #[.int .i64 (-1), .int .i64 65535, .int .i64 65536, .int .i64 3] 3)) W5.heap.size 4 (fun y => -1 ≤ y ∧ y ≤ 65536)) := lstOf W5 3 [-1, 65535, 65536, 3] _ (by decide)
   have HA : Hid ((MB (W5.alloc (.cells #[.int .i64 (-1), .int .i64 65535, .int .i64 65536, .int .i64 3] 3)) w.heap.size w.heap.size Mb ⟨m.n, m.s, m.i, m.h, m.e, z1⟩ (.slice ai m.i.length ci) (.slice ah m.h.length ch) (.slice ae m.e.length ce) us) ∧ Cur (W5.alloc (.cells #[.int .i64 (-1), .int .i64 65535, .int .i64 65536, .int .i64 3] 3)) c ∧ Turns (fun k => k = c) w (W5.alloc (.cells #[.int .i64 (-1), .int .i64 65535, .int .i64 65536, .int .i64 3] 3))) := ⟨HD5.out.1.alloc _, HD5.out.2.1.alloc _, HD5.out.2.2.alloc _⟩
   have HS : Hid (w.heap.size ≤ W5.heap.size) := HD5.out.2.2.size
   go_wp2_with fail
   clear g0 gf hW
   refine (pick_any c W5.heap.size 4 _ _ (by omega) (by omega) (by have := HS.out; omega) HA.out.2.1 HL.out).mono ?_
   rintro e w6 ⟨z2, rfl, z20, hC, hT⟩
   have HD6 : Hid ((MB w6 w.heap.size w.heap.size Mb ⟨m.n, m.s, m.i, m.h, m.e, z1⟩ (.slice ai m.i.length ci) (.slice ah m.h.length ch) (.slice ae m.e.length ce) us) ∧ Cur w6 c ∧ Turns (fun k => k = c) w w6) := ⟨HA.out.1.keptC hcw (Nat.le_refl _) (by omega) hT, hC, HA.out.2.2.trans hT⟩
   clear hC hT HL HA HS HD5
   have g0 := HD6.out.1.b.cell (i := 1) rfl
   have gf := HD6.out.1.b.free 1
   obtain ⟨W7, hW⟩ : ∃ V, w6.setCell ⟨Mb, 1, none⟩ (.int .i64 z2) = V := ⟨_, rfl⟩
   have HD7 : Hid ((MB W7 w.heap.size w.heap.size Mb ⟨m.n, z2, m.i, m.h, m.e, z1⟩ (.slice ai m.i.length ci) (.slice ah m.h.length ch) (.slice ae m.e.length ce) us) ∧ Cur W7 c ∧ Turns (fun k => k = c) w W7) := hW ▸ ⟨HD6.out.1.putS z2, HD6.out.2.1.put hMc _ _, HD6.out.2.2.setNew (by omega) _ _⟩
   have HWs := hW
   have b0 := HD7.out.1.b.cell (i := 0) rfl
   have b1 := HD7.out.1.b.cell (i := 1) rfl
   have b2 := HD7.out.1.b.cell (i := 2) rfl
   have b3 := HD7.out.1.b.cell (i := 3) rfl
   have b4 := HD7.out.1.b.cell (i := 4) rfl
   have b5 := HD7.out.1.b.cell (i := 5) rfl
   have q0 := HD7.out.1.r.cell (i := 0) rfl
   have q1 := HD7.out.1.r.cell (i := 1) rfl
   have q2 := HD7.out.1.r.cell (i := 2) rfl
   have q3 := HD7.out.1.r.cell (i := 3) rfl
   have q4 := HD7.out.1.r.cell (i := 4) rfl
   have q5 := HD7.out.1.r.cell (i := 5) rfl
   have qf := HD7.out.1.r.free
   go_wp2
   clear g0 gf hW HWs
   clear q0 q1 q2 q3 q4 q5 qf b0 b1 b2 b3 b4 b5
   obtain ⟨X5, hX5⟩ : ∃ X5, put6 W7 w.heap.size (.int .i64 m.n) (.int .i64 z2) (.slice ai m.i.length ci) (.slice ah m.h.length ch) (.slice ae m.e.length ce) (.int .i64 z1) = X5 := ⟨_, rfl⟩
   have hP := HD7.out.1.r.put6 (.int .i64 m.n) (.int .i64 z2) (.slice ai m.i.length ci) (.slice ah m.h.length ch) (.slice ae m.e.length ce) (.int .i64 z1)
   have ht := put6_turns W7 w.heap.size (.int .i64 m.n) (.int .i64 z2) (.slice ai m.i.length ci) (.slice ah m.h.length ch) (.slice ae m.e.length ce) (.int .i64 z1)
   rw [hX5] at hP ht
   unfold put6 at hX5
   rw [hX5]
   have t0 := hP.cell (i := 0) rfl
   have t1 := hP.cell (i := 1) rfl
   have t2 := hP.cell (i := 2) rfl
   have t3 := hP.cell (i := 3) rfl
   have t4 := hP.cell (i := 4) rfl
   have t5 := hP.cell (i := 5) rfl
   refine bodyPost_ret (v := .agg #[.int .i64 m.n, .int .i64 z2, .slice ai m.i.length ci, .slice ah m.h.length ch, .slice ae m.e.length ce, .int .i64 z1]) (by simp [results, Tryz.results24, go_sem, t0, t1, t2, t3, t4, t5]) rfl ⟨⟨m.n, z2, m.i, m.h, m.e, z1⟩, _, rfl, (HD7.out.1.mo ht).mdf, HTY.out, HD7.out.2.1.turns ht (fun j hj => by omega), HD7.out.2.2.trans' ht (Nat.le_refl _)⟩
  ·obtain ⟨gi, ci', hgi, hgB, hgc, hgf⟩ := owns_some HD3.out.1.i HI1.out
   obtain ⟨hai, hci⟩ : ai = some ⟨gi, 0, none⟩ ∧ ci = ci' := by simpa using hgi
   subst hai hci
   have HL : Hid (ListAt (w3.drew.alloc (.cells #[.int .i64 (-1), .int .i64 999, .int .i64 1000] 3)) w3.drew.heap.size 3 (fun y => -1 ≤ y ∧ y ≤ 1000)) := lstOf w3.drew 3 [-1, 999, 1000] _ (by decide)
   have HA0 : Hid ((MB w3.drew w.heap.size w.heap.size Mb m (.slice (some ⟨gi, 0, none⟩) m.i.length ci) (.slice ah m.h.length ch) (.slice ae m.e.length ce) us) ∧ Cur w3.drew c ∧ Turns (fun k => k = c) w w3.drew) := ⟨HD3.out.1.drew, HD3.out.2.1.drew, ⟨HD3.out.2.2.os, HD3.out.2.2.tape, HD3.out.2.2.output, HD3.out.2.2.size, HD3.out.2.2.block⟩⟩
   have HA : Hid ((MB (w3.drew.alloc (.cells #[.int .i64 (-1), .int .i64 999, .int .i64 1000] 3)) w.heap.size w.heap.size Mb m (.slice (some ⟨gi, 0, none⟩) m.i.length ci) (.slice ah m.h.length ch) (.slice ae m.e.length ce) us) ∧ Cur (w3.drew.alloc (.cells #[.int .i64 (-1), .int .i64 999, .int .i64 1000] 3)) c ∧ Turns (fun k => k = c) w (w3.drew.alloc (.cells #[.int .i64 (-1), .int .i64 999, .int .i64 1000] 3))) := ⟨HA0.out.1.alloc _, HA0.out.2.1.alloc _, HA0.out.2.2.alloc _⟩
   have HS : Hid (w.heap.size ≤ w3.drew.heap.size) := HA0.out.2.2.size
   have HK : Hid (w3.drew.cell? ⟨Mb, 2, none⟩ = some (.slice (some ⟨gi, 0, none⟩) m.i.length ci)) := HA0.out.1.b.cell rfl
   have HK1 : Hid ((w3.drew.alloc (.cells #[.int .i64 (-1), .int .i64 999, .int .i64 1000] 3)).cell? ⟨Mb, 2, none⟩ = some (.slice (some ⟨gi, 0, none⟩) m.i.length ci)) := HA.out.1.b.cell rfl
   have hil : ¬ m.i = [] := by (have := HI1.out; intro e; rw [e] at this; simp at this)
   clear hgc hgf hgi
   go_wp2_with fail
   refine wp_region_z 6 (fun W => W.cell? ⟨Mb, 2, none⟩ = some (.slice (some ⟨gi, 0, none⟩) m.i.length ci)) (by kernel_rfl) HK.out (fun hHeld => ?_)
   refine wpAnyZ_take (i := 0) (oi := { dst := some 42, op := Op.fieldAddr 27 (Operand.tmp 3) 2, type := 0, pos := _, after := _, guard := none }) (v := .pointer (some ⟨Mb, 2, none⟩)) 0 [] rfl (by kernel_rfl) (by kernel_rfl) (by kernel_rfl) (by kernel_rfl) (by kernel_rfl) (fun _ _ _ h => h) (Or.inl ⟨by rfl, ?_⟩) (by assumption) ?_
   ·intro wX hSw
    try dsimp only at hSw
    go_simp
    try exact IntWalk.i64_in _ (by omega)
   try simp only [Act.put, List.setIfInBounds_toArray, List.set_cons_zero, List.set_cons_succ]
   refine wpAnyZ_take (i := 1) (oi := { dst := some 43, op := Op.load 23 (Operand.tmp 42), type := 23, pos := _, after := _, guard := none }) (v := .slice (some ⟨gi, 0, none⟩) m.i.length ci) 1 [] rfl (by kernel_rfl) (by kernel_rfl) (by kernel_rfl) (by kernel_rfl) (by kernel_rfl) (fun _ _ _ h => h) (Or.inl ⟨by rfl, ?_⟩) (by assumption) ?_
   ·intro wX hSw
    try dsimp only at hSw
    go_simp
    try exact IntWalk.i64_in _ (by omega)
   try simp only [Act.put, List.setIfInBounds_toArray, List.set_cons_zero, List.set_cons_succ]
   refine wpAnyZ_take (i := 2) (oi := { dst := some 44, op := Op.move (Operand.tmp 0), type := 60, pos := _, after := _, guard := none }) (v := .pointer (some ⟨c, 0, none⟩)) 2 [] rfl (by kernel_rfl) (by kernel_rfl) (by kernel_rfl) (by kernel_rfl) (by kernel_rfl) (fun _ _ _ h => h) (Or.inl ⟨by rfl, ?_⟩) (by assumption) ?_
   ·intro wX hSw
    try dsimp only at hSw
    go_simp
    try exact IntWalk.i64_in _ (by omega)
   try simp only [Act.put, List.setIfInBounds_toArray, List.set_cons_zero, List.set_cons_succ]
   refine wpAnyZ_ready (rs := [3]) (by kernel_rfl) (by simp) ?_
   refine AllReadyZ.cons (o := { dst := some 45, op := Op.buildSlice 23 3 #[(0, Operand.const (Value.int IntKind.i64 (-1))), (1, Operand.const (Value.int IntKind.i64 999)), (2, Operand.const (Value.int IntKind.i64 1000))], type := 23, pos := _, after := _, guard := none }) rfl (fun K hK => ?_) AllReadyZ.nil
   go_simp
   refine hK.out _ _ HK1.out (fun hHeld => ?_)
   clear hK K
   try simp only [Act.put, List.setIfInBounds_toArray, List.set_cons_zero, List.set_cons_succ]
   refine wpAnyZ_ready (rs := [4]) (by kernel_rfl) (by simp) ?_
   refine AllReadyZ.cons (o := { dst := some 46, op := Op.call { callee := Callee.value (Operand.func 51), args := #[Operand.tmp 44, Operand.tmp 45], argTypes := #[60, 23] }, type := 3, pos := _, after := _, guard := none }) rfl (fun K hK => ?_) AllReadyZ.nil
   go_simp
   refine (pick_any c w3.drew.heap.size 3 _ _ (by omega) (by omega) (by have := HS.out; omega) HA.out.2.1 HL.out).mono ?_
   rintro e w4 ⟨z1, rfl, z10, hC, hT⟩
   have HD4 : Hid ((MB w4 w.heap.size w.heap.size Mb m (.slice (some ⟨gi, 0, none⟩) m.i.length ci) (.slice ah m.h.length ch) (.slice ae m.e.length ce) us) ∧ Cur w4 c ∧ Turns (fun k => k = c) w w4) := ⟨HA.out.1.keptC hcw (Nat.le_refl _) (by omega) hT, hC, HA.out.2.2.trans hT⟩
   have HK2 : Hid (w4.cell? ⟨Mb, 2, none⟩ = some (.slice (some ⟨gi, 0, none⟩) m.i.length ci)) := HD4.out.1.b.cell rfl
   obtain ⟨gj, cj, hgj, _, hgc, hgf⟩ := owns_some HD4.out.1.i HI1.out
   obtain rfl : gi = gj := by simpa [Value.ownBlock] using congrArg Value.ownBlock hgj
   have hc0 := hgc 0 (by have := HI1.out; omega)
   have hf0 := hgf 0
   have hz0 : ∃ u, (intCells m.i)[0]? = some u := ⟨_, List.getElem?_eq_getElem (by rw [intCells_length]; exact HI1.out)⟩
   obtain ⟨u0, hu0⟩ := hz0
   rw [hu0] at hc0
   clear hC hT hgj hgc hgf hu0 HA HL HA0 HD3
   refine hK.out _ _ HK2.out (fun hHeld => ?_)
   clear hK K
   try simp only [Act.put, List.setIfInBounds_toArray, List.set_cons_zero, List.set_cons_succ]
   refine wpAnyZ_take (i := 5) (oi := { dst := some 47, op := Op.indexAddr 23 (Operand.tmp 43) (Operand.const (Value.int IntKind.i64 0)), type := 0, pos := _, after := _, guard := none }) (v := .pointer (some ⟨gi, 0, none⟩)) 5 [] rfl (by kernel_rfl) (by kernel_rfl) (by kernel_rfl) (by kernel_rfl) (by kernel_rfl) (fun _ _ _ h => h) (Or.inl ⟨by rfl, ?_⟩) (by assumption) ?_
   ·intro wX hSw
    try dsimp only at hSw
    go_simp
    try exact IntWalk.i64_in _ (by omega)
   try simp only [Act.put, List.setIfInBounds_toArray, List.set_cons_zero, List.set_cons_succ]
   refine wpAnyZ_ready (rs := [6]) (by kernel_rfl) (by simp) ?_
   refine AllReadyZ.last (o := { dst := none, op := Op.store 3 (Operand.tmp 47) (Operand.tmp 46), type := 0, pos := _, after := _, guard := none }) rfl (fun K hK => ?_)
   go_simp
   refine hK.out _ _ ?_
   clear hK K
   try simp only [Act.put, List.setIfInBounds_toArray, List.set_cons_zero, List.set_cons_succ]
   refine wpAnyZ_done (by kernel_rfl) ?_ _
   clear hc0 hf0 HK HK1 HK2 hHeld
   obtain ⟨W5, hW⟩ : ∃ V, w4.setCell ⟨gi, 0, none⟩ (.int .i64 z1) = V := ⟨_, rfl⟩
   have HD5 : Hid ((MB W5 w.heap.size w.heap.size Mb ⟨m.n, m.s, m.i.set 0 z1, m.h, m.e, m.z⟩ (.slice (some ⟨gi, 0, none⟩) m.i.length ci) (.slice ah m.h.length ch) (.slice ae m.e.length ce) us) ∧ Cur W5 c ∧ Turns (fun k => k = c) w W5) := hW ▸ ⟨HD4.out.1.setI rfl 0 z1, HD4.out.2.1.put (by omega) _ _, HD4.out.2.2.setNew hgB _ _⟩
   rw [hW]
   clear hW HD4
   have b0 := HD5.out.1.b.cell (i := 0) rfl
   have b1 := HD5.out.1.b.cell (i := 1) rfl
   have b2 := HD5.out.1.b.cell (i := 2) rfl
   have b3 := HD5.out.1.b.cell (i := 3) rfl
   have b4 := HD5.out.1.b.cell (i := 4) rfl
   have b5 := HD5.out.1.b.cell (i := 5) rfl
   have q0 := HD5.out.1.r.cell (i := 0) rfl
   have q1 := HD5.out.1.r.cell (i := 1) rfl
   have q2 := HD5.out.1.r.cell (i := 2) rfl
   have q3 := HD5.out.1.r.cell (i := 3) rfl
   have q4 := HD5.out.1.r.cell (i := 4) rfl
   have q5 := HD5.out.1.r.cell (i := 5) rfl
   have qf := HD5.out.1.r.free
   go_wp2
   clear q0 q1 q2 q3 q4 q5 qf b0 b1 b2 b3 b4 b5
   obtain ⟨X5, hX5⟩ : ∃ X5, put6 W5 w.heap.size (.int .i64 m.n) (.int .i64 m.s) (.slice (some ⟨gi, 0, none⟩) m.i.length ci) (.slice ah m.h.length ch) (.slice ae m.e.length ce) (.int .i64 m.z) = X5 := ⟨_, rfl⟩
   have hP := HD5.out.1.r.put6 (.int .i64 m.n) (.int .i64 m.s) (.slice (some ⟨gi, 0, none⟩) m.i.length ci) (.slice ah m.h.length ch) (.slice ae m.e.length ce) (.int .i64 m.z)
   have ht := put6_turns W5 w.heap.size (.int .i64 m.n) (.int .i64 m.s) (.slice (some ⟨gi, 0, none⟩) m.i.length ci) (.slice ah m.h.length ch) (.slice ae m.e.length ce) (.int .i64 m.z)
   rw [hX5] at hP ht
   unfold put6 at hX5
   rw [hX5]
   have t0 := hP.cell (i := 0) rfl
   have t1 := hP.cell (i := 1) rfl
   have t2 := hP.cell (i := 2) rfl
   have t3 := hP.cell (i := 3) rfl
   have t4 := hP.cell (i := 4) rfl
   have t5 := hP.cell (i := 5) rfl
   refine bodyPost_ret (v := .agg #[.int .i64 m.n, .int .i64 m.s, .slice (some ⟨gi, 0, none⟩) m.i.length ci, .slice ah m.h.length ch, .slice ae m.e.length ce, .int .i64 m.z]) (by simp [results, Tryz.results24, go_sem, t0, t1, t2, t3, t4, t5]) rfl ⟨⟨m.n, m.s, m.i.set 0 z1, m.h, m.e, m.z⟩, _, rfl, (HD5.out.1.mo ht).mdf, ⟨by simpa using HTY.out.1, HTY.out.2⟩, HD5.out.2.1.turns ht (fun j hj => by omega), HD5.out.2.2.trans' ht (Nat.le_refl _)⟩
  ·obtain ⟨gh, ch', hgh, hgB, hgc, hgf⟩ := owns_some HD3.out.1.h HH1.out
   obtain ⟨hah, hch⟩ : ah = some ⟨gh, 0, none⟩ ∧ ch = ch' := by simpa using hgh
   subst hah hch
   clear hgc hgf hgh
   obtain ⟨r0, hr0⟩ : ∃ r0, hAt m.h 0 = r0 := ⟨_, rfl⟩
   have HR0 : Hid (hAt m.h 0 = r0) := hr0
   obtain ⟨au, cu, hu0⟩ := owns_slice (HD3.out.1.u.2.1 0 HH1.out)
   rw [hr0] at hu0
   have HU0 : Hid (uAt us 0 = .slice au r0.length cu) := hu0
   have hhl : ¬ m.h = [] := by (have := HH1.out; intro e; rw [e] at this; simp at this)
   have hr10 : r0.length ≤ 8 := by (have := HO8.out 0; rw [hr0] at this; exact this)
   clear hr0 hu0
   have HA0 : Hid ((MB w3.drew w.heap.size w.heap.size Mb m (.slice ai m.i.length ci) (.slice (some ⟨gh, 0, none⟩) m.h.length ch) (.slice ae m.e.length ce) us) ∧ Cur w3.drew c ∧ Turns (fun k => k = c) w w3.drew) := ⟨HD3.out.1.drew, HD3.out.2.1.drew, ⟨HD3.out.2.2.os, HD3.out.2.2.tape, HD3.out.2.2.output, HD3.out.2.2.size, HD3.out.2.2.block⟩⟩
   have HQ0 : Hid (w3.drew.cell? ⟨Mb, 3, none⟩ = some (.slice (some ⟨gh, 0, none⟩) m.h.length ch) ∧ w3.drew.cell? ⟨gh, 0, none⟩ = some (.slice au r0.length cu)) := ⟨HA0.out.1.b.cell rfl, by rw [← HU0.out]; exact (HA0.out.1.row0 HH1.out).1⟩
   clear HD3
   go_wp2_with fail
   refine wp_region_z 21 (fun W => W.cell? ⟨Mb, 3, none⟩ = some (.slice (some ⟨gh, 0, none⟩) m.h.length ch) ∧ W.cell? ⟨gh, 0, none⟩ = some (.slice au r0.length cu)) (by kernel_rfl) HQ0.out (fun hHeld => ?_)
   refine wpAnyZ_take (i := 0) (oi := { dst := some 50, op := Op.fieldAddr 27 (Operand.tmp 3) 3, type := 0, pos := _, after := _, guard := none }) (v := .pointer (some ⟨Mb, 3, none⟩)) 0 [] rfl (by kernel_rfl) (by kernel_rfl) (by kernel_rfl) (by kernel_rfl) (by kernel_rfl) (fun _ _ _ h => h) (Or.inl ⟨by rfl, ?_⟩) (by assumption) ?_
   ·intro wX hSw
    try dsimp only at hSw
    go_simp
    try exact IntWalk.i64_in _ (by omega)
   try simp only [Act.put, List.setIfInBounds_toArray, List.set_cons_zero, List.set_cons_succ]
   refine wpAnyZ_take (i := 1) (oi := { dst := some 51, op := Op.load 24 (Operand.tmp 50), type := 24, pos := _, after := _, guard := none }) (v := .slice (some ⟨gh, 0, none⟩) m.h.length ch) 1 [] rfl (by kernel_rfl) (by kernel_rfl) (by kernel_rfl) (by kernel_rfl) (by kernel_rfl) (fun _ _ _ h => h) (Or.inl ⟨by rfl, ?_⟩) (by assumption) ?_
   ·intro wX hSw
    try dsimp only at hSw
    go_simp
    try exact IntWalk.i64_in _ (by omega)
   try simp only [Act.put, List.setIfInBounds_toArray, List.set_cons_zero, List.set_cons_succ]
   refine wpAnyZ_take (i := 2) (oi := { dst := some 52, op := Op.fieldAddr 27 (Operand.tmp 3) 3, type := 0, pos := _, after := _, guard := none }) (v := .pointer (some ⟨Mb, 3, none⟩)) 2 [] rfl (by kernel_rfl) (by kernel_rfl) (by kernel_rfl) (by kernel_rfl) (by kernel_rfl) (fun _ _ _ h => h) (Or.inl ⟨by rfl, ?_⟩) (by assumption) ?_
   ·intro wX hSw
    try dsimp only at hSw
    go_simp
    try exact IntWalk.i64_in _ (by omega)
   try simp only [Act.put, List.setIfInBounds_toArray, List.set_cons_zero, List.set_cons_succ]
   refine wpAnyZ_take (i := 3) (oi := { dst := some 53, op := Op.load 24 (Operand.tmp 52), type := 24, pos := _, after := _, guard := none }) (v := .slice (some ⟨gh, 0, none⟩) m.h.length ch) 3 [] rfl (by kernel_rfl) (by kernel_rfl) (by kernel_rfl) (by kernel_rfl) (by kernel_rfl) (fun _ _ _ h => h) (Or.inl ⟨by rfl, ?_⟩) (by assumption) ?_
   ·intro wX hSw
    try dsimp only at hSw
    go_simp
    try exact IntWalk.i64_in _ (by omega)
   try simp only [Act.put, List.setIfInBounds_toArray, List.set_cons_zero, List.set_cons_succ]
   refine wpAnyZ_take (i := 4) (oi := { dst := some 54, op := Op.indexAddr 24 (Operand.tmp 53) (Operand.const (Value.int IntKind.i64 0)), type := 0, pos := _, after := _, guard := none }) (v := .pointer (some ⟨gh, 0, none⟩)) 4 [] rfl (by kernel_rfl) (by kernel_rfl) (by kernel_rfl) (by kernel_rfl) (by kernel_rfl) (fun _ _ _ h => h) (Or.inl ⟨by rfl, ?_⟩) (by assumption) ?_
   ·intro wX hSw
    try dsimp only at hSw
    go_simp
    try exact IntWalk.i64_in _ (by omega)
   try simp only [Act.put, List.setIfInBounds_toArray, List.set_cons_zero, List.set_cons_succ]
   refine wpAnyZ_take (i := 5) (oi := { dst := some 55, op := Op.load 37 (Operand.tmp 54), type := 37, pos := _, after := _, guard := none }) (v := .slice au r0.length cu) 5 [] rfl (by kernel_rfl) (by kernel_rfl) (by kernel_rfl) (by kernel_rfl) (by kernel_rfl) (fun _ _ _ h => h) (Or.inl ⟨by rfl, ?_⟩) (by assumption) ?_
   ·intro wX hSw
    try dsimp only at hSw
    go_simp
    try exact IntWalk.i64_in _ (by omega)
   try simp only [Act.put, List.setIfInBounds_toArray, List.set_cons_zero, List.set_cons_succ]
   refine wpAnyZ_take (i := 6) (oi := { dst := some 56, op := Op.move (Operand.tmp 0), type := 60, pos := _, after := _, guard := none }) (v := .pointer (some ⟨c, 0, none⟩)) 6 [] rfl (by kernel_rfl) (by kernel_rfl) (by kernel_rfl) (by kernel_rfl) (by kernel_rfl) (fun _ _ _ h => h) (Or.inl ⟨by rfl, ?_⟩) (by assumption) ?_
   ·intro wX hSw
    try dsimp only at hSw
    go_simp
    try exact IntWalk.i64_in _ (by omega)
   try simp only [Act.put, List.setIfInBounds_toArray, List.set_cons_zero, List.set_cons_succ]
   refine wpAnyZ_take (i := 9) (oi := { dst := some 59, op := Op.move (Operand.tmp 0), type := 60, pos := _, after := _, guard := none }) (v := .pointer (some ⟨c, 0, none⟩)) 9 [] rfl (by kernel_rfl) (by kernel_rfl) (by kernel_rfl) (by kernel_rfl) (by kernel_rfl) (fun _ _ _ h => h) (Or.inl ⟨by rfl, ?_⟩) (by assumption) ?_
   ·intro wX hSw
    try dsimp only at hSw
    go_simp
    try exact IntWalk.i64_in _ (by omega)
   try simp only [Act.put, List.setIfInBounds_toArray, List.set_cons_zero, List.set_cons_succ]
   refine wpAnyZ_take (i := 12) (oi := { dst := some 62, op := Op.move (Operand.tmp 0), type := 60, pos := _, after := _, guard := none }) (v := .pointer (some ⟨c, 0, none⟩)) 12 [] rfl (by kernel_rfl) (by kernel_rfl) (by kernel_rfl) (by kernel_rfl) (by kernel_rfl) (fun _ _ _ h => h) (Or.inl ⟨by rfl, ?_⟩) (by assumption) ?_
   ·intro wX hSw
    try dsimp only at hSw
    go_simp
    try exact IntWalk.i64_in _ (by omega)
   try simp only [Act.put, List.setIfInBounds_toArray, List.set_cons_zero, List.set_cons_succ]
   refine wpAnyZ_take (i := 15) (oi := { dst := some 65, op := Op.move (Operand.tmp 0), type := 60, pos := _, after := _, guard := none }) (v := .pointer (some ⟨c, 0, none⟩)) 15 [] rfl (by kernel_rfl) (by kernel_rfl) (by kernel_rfl) (by kernel_rfl) (by kernel_rfl) (fun _ _ _ h => h) (Or.inl ⟨by rfl, ?_⟩) (by assumption) ?_
   ·intro wX hSw
    try dsimp only at hSw
    go_simp
    try exact IntWalk.i64_in _ (by omega)
   try simp only [Act.put, List.setIfInBounds_toArray, List.set_cons_zero, List.set_cons_succ]
   refine wpAnyZ_ready (rs := [7, 13]) (by kernel_rfl) (by simp) ?_
   refine AllReadyZ.cons (o := { dst := some 57, op := Op.call { callee := Callee.value (Operand.func 47), args := #[Operand.tmp 56, Operand.const (Value.int IntKind.i64 9)], argTypes := #[60, 3] }, type := 3, pos := _, after := _, guard := none }) rfl (fun K hK => ?_) (AllReadyZ.cons (o := { dst := some 63, op := Op.buildSlice 23 4 #[(0, Operand.const (Value.int IntKind.i64 0)), (1, Operand.const (Value.int IntKind.i64 1)), (2, Operand.const (Value.int IntKind.i64 50)), (3, Operand.const (Value.int IntKind.i64 51))], type := 23, pos := _, after := _, guard := none }) rfl (fun K hK => ?_) AllReadyZ.nil)
   ·go_simp
    refine (below_any c _ _ HA0.out.2.1).mono ?_
    rintro e w11 ⟨y1, rfl, y10, y11, hC, hT⟩
    have y12 := y11 (by omega)
    have HB11x : Hid ((MB w11 w.heap.size w.heap.size Mb m (.slice ai m.i.length ci) (.slice (some ⟨gh, 0, none⟩) m.h.length ch) (.slice ae m.e.length ce) us) ∧ Cur w11 c ∧ Turns (fun k => k = c) w w11) := ⟨HA0.out.1.keptC hcw (Nat.le_refl _) (by omega) hT, hC, HA0.out.2.2.trans hT⟩
    have HQ11 : Hid (w11.cell? ⟨Mb, 3, none⟩ = some (.slice (some ⟨gh, 0, none⟩) m.h.length ch) ∧ w11.cell? ⟨gh, 0, none⟩ = some (.slice au r0.length cu)) := ⟨HB11x.out.1.b.cell rfl, by rw [← HU0.out]; exact (HB11x.out.1.row0 HH1.out).1⟩
    clear hC hT y11 HA0
    refine hK.out _ _ HQ11.out (fun hHeld => ?_)
    clear hK K
    try simp only [Act.put, List.setIfInBounds_toArray, List.set_cons_zero, List.set_cons_succ]
    refine wpAnyZ_take (i := 8) (oi := { dst := some 58, op := Op.binOp BinOp.sub 3 (Operand.tmp 57) (Operand.const (Value.int IntKind.i64 1)) 3, type := 3, pos := _, after := _, guard := none }) (v := .int .i64 (y1 - 1)) 8 [] rfl (by kernel_rfl) (by kernel_rfl) (by kernel_rfl) (by kernel_rfl) (by kernel_rfl) (fun _ _ _ h => h) (Or.inl ⟨by rfl, ?_⟩) (by assumption) ?_
    ·intro wX hSw
     try dsimp only at hSw
     go_simp
     try exact IntWalk.i64_in _ (by omega)
    try simp only [Act.put, List.setIfInBounds_toArray, List.set_cons_zero, List.set_cons_succ]
    refine wpAnyZ_ready (rs := [10, 13]) (by kernel_rfl) (by simp) ?_
    refine AllReadyZ.cons (o := { dst := some 60, op := Op.call { callee := Callee.value (Operand.func 47), args := #[Operand.tmp 59, Operand.const (Value.int IntKind.i64 5)], argTypes := #[60, 3] }, type := 3, pos := _, after := _, guard := none }) rfl (fun K hK => ?_) (AllReadyZ.cons (o := { dst := some 63, op := Op.buildSlice 23 4 #[(0, Operand.const (Value.int IntKind.i64 0)), (1, Operand.const (Value.int IntKind.i64 1)), (2, Operand.const (Value.int IntKind.i64 50)), (3, Operand.const (Value.int IntKind.i64 51))], type := 23, pos := _, after := _, guard := none }) rfl (fun K hK => ?_) AllReadyZ.nil)
    ·go_simp
     refine (below_any c _ _ HB11x.out.2.1).mono ?_
     rintro e w13 ⟨y2, rfl, y20, y21, hC, hT⟩
     have y22 := y21 (by omega)
     have HB13x : Hid ((MB w13 w.heap.size w.heap.size Mb m (.slice ai m.i.length ci) (.slice (some ⟨gh, 0, none⟩) m.h.length ch) (.slice ae m.e.length ce) us) ∧ Cur w13 c ∧ Turns (fun k => k = c) w w13) := ⟨HB11x.out.1.keptC hcw (Nat.le_refl _) (by omega) hT, hC, HB11x.out.2.2.trans hT⟩
     have HQ13 : Hid (w13.cell? ⟨Mb, 3, none⟩ = some (.slice (some ⟨gh, 0, none⟩) m.h.length ch) ∧ w13.cell? ⟨gh, 0, none⟩ = some (.slice au r0.length cu)) := ⟨HB13x.out.1.b.cell rfl, by rw [← HU0.out]; exact (HB13x.out.1.row0 HH1.out).1⟩
     clear hC hT y21 HB11x
     refine hK.out _ _ HQ13.out (fun hHeld => ?_)
     clear hK K
     try simp only [Act.put, List.setIfInBounds_toArray, List.set_cons_zero, List.set_cons_succ]
     refine wpAnyZ_take (i := 11) (oi := { dst := some 61, op := Op.binOp BinOp.sub 3 (Operand.tmp 60) (Operand.const (Value.int IntKind.i64 1)) 3, type := 3, pos := _, after := _, guard := none }) (v := .int .i64 (y2 - 1)) 11 [] rfl (by kernel_rfl) (by kernel_rfl) (by kernel_rfl) (by kernel_rfl) (by kernel_rfl) (fun _ _ _ h => h) (Or.inl ⟨by rfl, ?_⟩) (by assumption) ?_
     ·intro wX hSw
      try dsimp only at hSw
      go_simp
      try exact IntWalk.i64_in _ (by omega)
     try simp only [Act.put, List.setIfInBounds_toArray, List.set_cons_zero, List.set_cons_succ]
     refine wpAnyZ_ready (rs := [13]) (by kernel_rfl) (by simp) ?_
     refine AllReadyZ.cons (o := { dst := some 63, op := Op.buildSlice 23 4 #[(0, Operand.const (Value.int IntKind.i64 0)), (1, Operand.const (Value.int IntKind.i64 1)), (2, Operand.const (Value.int IntKind.i64 50)), (3, Operand.const (Value.int IntKind.i64 51))], type := 23, pos := _, after := _, guard := none }) rfl (fun K hK => ?_) AllReadyZ.nil
     have HB15x : Hid ((MB (w13.alloc (.cells #[.int .i64 0, .int .i64 1, .int .i64 50, .int .i64 51] 3)) w.heap.size w.heap.size Mb m (.slice ai m.i.length ci) (.slice (some ⟨gh, 0, none⟩) m.h.length ch) (.slice ae m.e.length ce) us) ∧ Cur (w13.alloc (.cells #[.int .i64 0, .int .i64 1, .int .i64 50, .int .i64 51] 3)) c ∧ Turns (fun k => k = c) w (w13.alloc (.cells #[.int .i64 0, .int .i64 1, .int .i64 50, .int .i64 51] 3))) := ⟨HB13x.out.1.alloc _, HB13x.out.2.1.alloc _, HB13x.out.2.2.alloc _⟩
     have HL15 : Hid (ListAt (w13.alloc (.cells #[.int .i64 0, .int .i64 1, .int .i64 50, .int .i64 51] 3)) w13.heap.size 4 (fun y => 0 ≤ y ∧ y ≤ 51)) := lstOf w13 3 [0, 1, 50, 51] _ (by decide)
     have hsg15 : w.heap.size ≤ w13.heap.size := HB13x.out.2.2.size
     obtain ⟨G15, hG15⟩ : ∃ G, G = w13.heap.size := ⟨_, rfl⟩
     have hGc15 : ¬ G15 = c := by omega
     have HGL15 : Hid (ListAt (w13.alloc (.cells #[.int .i64 0, .int .i64 1, .int .i64 50, .int .i64 51] 3)) G15 4 (fun y => 0 ≤ y ∧ y ≤ 51)) := hG15 ▸ HL15.out
     have HQ15 : Hid ((w13.alloc (.cells #[.int .i64 0, .int .i64 1, .int .i64 50, .int .i64 51] 3)).cell? ⟨Mb, 3, none⟩ = some (.slice (some ⟨gh, 0, none⟩) m.h.length ch) ∧ (w13.alloc (.cells #[.int .i64 0, .int .i64 1, .int .i64 50, .int .i64 51] 3)).cell? ⟨gh, 0, none⟩ = some (.slice au r0.length cu)) := ⟨HB15x.out.1.b.cell rfl, by rw [← HU0.out]; exact (HB15x.out.1.row0 HH1.out).1⟩
     go_simp
     clear HL15 HB13x
     refine hK.out _ _ HQ15.out (fun hHeld => ?_)
     clear hK K
     try simp only [Act.put, List.setIfInBounds_toArray, List.set_cons_zero, List.set_cons_succ]
     refine wpAnyZ_ready (rs := [14]) (by kernel_rfl) (by simp) ?_
     refine AllReadyZ.cons (o := { dst := some 64, op := Op.call { callee := Callee.value (Operand.func 51), args := #[Operand.tmp 62, Operand.tmp 63], argTypes := #[60, 23] }, type := 3, pos := _, after := _, guard := none }) rfl (fun K hK => ?_) AllReadyZ.nil
     go_simp
     refine (pick_any c w13.heap.size 4 _ _ (by omega) (by omega) (by rw [← hG15]; exact hGc15) HB15x.out.2.1 (hG15 ▸ HGL15.out)).mono ?_
     rintro e w16 ⟨y3, rfl, y30, hC, hT⟩
     have HB16x : Hid ((MB w16 w.heap.size w.heap.size Mb m (.slice ai m.i.length ci) (.slice (some ⟨gh, 0, none⟩) m.h.length ch) (.slice ae m.e.length ce) us) ∧ Cur w16 c ∧ Turns (fun k => k = c) w w16) := ⟨HB15x.out.1.keptC hcw (Nat.le_refl _) (by omega) hT, hC, HB15x.out.2.2.trans hT⟩
     have HQ16 : Hid (w16.cell? ⟨Mb, 3, none⟩ = some (.slice (some ⟨gh, 0, none⟩) m.h.length ch) ∧ w16.cell? ⟨gh, 0, none⟩ = some (.slice au r0.length cu)) := ⟨HB16x.out.1.b.cell rfl, by rw [← HU0.out]; exact (HB16x.out.1.row0 HH1.out).1⟩
     clear hC hT HB15x HGL15
     refine hK.out _ _ HQ16.out (fun hHeld => ?_)
     clear hK K
     try simp only [Act.put, List.setIfInBounds_toArray, List.set_cons_zero, List.set_cons_succ]
     refine wpAnyZ_ready (rs := [16]) (by kernel_rfl) (by simp) ?_
     refine AllReadyZ.cons (o := { dst := some 66, op := Op.call { callee := Callee.value (Operand.func 47), args := #[Operand.tmp 65, Operand.const (Value.int IntKind.i64 4)], argTypes := #[60, 3] }, type := 3, pos := _, after := _, guard := none }) rfl (fun K hK => ?_) AllReadyZ.nil
     go_simp
     refine (below_any c _ _ HB16x.out.2.1).mono ?_
     rintro e w17 ⟨y4, rfl, y40, y41, hC, hT⟩
     have y42 := y41 (by omega)
     have HB17x : Hid ((MB w17 w.heap.size w.heap.size Mb m (.slice ai m.i.length ci) (.slice (some ⟨gh, 0, none⟩) m.h.length ch) (.slice ae m.e.length ce) us) ∧ Cur w17 c ∧ Turns (fun k => k = c) w w17) := ⟨HB16x.out.1.keptC hcw (Nat.le_refl _) (by omega) hT, hC, HB16x.out.2.2.trans hT⟩
     have HQ17 : Hid (w17.cell? ⟨Mb, 3, none⟩ = some (.slice (some ⟨gh, 0, none⟩) m.h.length ch) ∧ w17.cell? ⟨gh, 0, none⟩ = some (.slice au r0.length cu)) := ⟨HB17x.out.1.b.cell rfl, by rw [← HU0.out]; exact (HB17x.out.1.row0 HH1.out).1⟩
     clear hC hT y41 HB16x
     refine hK.out _ _ HQ17.out (fun hHeld => ?_)
     clear hK K
     try simp only [Act.put, List.setIfInBounds_toArray, List.set_cons_zero, List.set_cons_succ]
     refine wpAnyZ_take (i := 17) (oi := { dst := some 67, op := Op.build 39 #[(0, Operand.tmp 58), (1, Operand.tmp 61), (2, Operand.tmp 64), (3, Operand.tmp 66)], type := 39, pos := _, after := _, guard := none }) (v := .agg #[.int .i64 (y1 - 1), .int .i64 (y2 - 1), .int .i64 y3, .int .i64 y4]) 17 [] rfl (by kernel_rfl) (by kernel_rfl) (by kernel_rfl) (by kernel_rfl) (by kernel_rfl) (fun _ _ _ h => h) (Or.inl ⟨by rfl, ?_⟩) (by assumption) ?_
     ·intro wX hSw
      try dsimp only at hSw
      go_simp
      try exact IntWalk.i64_in _ (by omega)
     try simp only [Act.put, List.setIfInBounds_toArray, List.set_cons_zero, List.set_cons_succ]
     have HB6 : Hid ((MB (w17.alloc (.cells #[.int .i64 (y1 - 1), .int .i64 (y2 - 1), .int .i64 y3, .int .i64 y4] 39)) w.heap.size w.heap.size Mb m (.slice ai m.i.length ci) (.slice (some ⟨gh, 0, none⟩) m.h.length ch) (.slice ae m.e.length ce) us) ∧ Cur (w17.alloc (.cells #[.int .i64 (y1 - 1), .int .i64 (y2 - 1), .int .i64 y3, .int .i64 y4] 39)) c ∧ Turns (fun k => k = c) w (w17.alloc (.cells #[.int .i64 (y1 - 1), .int .i64 (y2 - 1), .int .i64 y3, .int .i64 y4] 39))) := ⟨HB17x.out.1.alloc _, HB17x.out.2.1.alloc _, HB17x.out.2.2.alloc _⟩
     have HQ6 : Hid ((w17.alloc (.cells #[.int .i64 (y1 - 1), .int .i64 (y2 - 1), .int .i64 y3, .int .i64 y4] 39)).cell? ⟨Mb, 3, none⟩ = some (.slice (some ⟨gh, 0, none⟩) m.h.length ch) ∧ (w17.alloc (.cells #[.int .i64 (y1 - 1), .int .i64 (y2 - 1), .int .i64 y3, .int .i64 y4] 39)).cell? ⟨gh, 0, none⟩ = some (.slice au r0.length cu)) := ⟨HB6.out.1.b.cell rfl, by rw [← HU0.out]; exact (HB6.out.1.row0 HH1.out).1⟩
     have HW6 : Hid ((w17.alloc (.cells #[.int .i64 (y1 - 1), .int .i64 (y2 - 1), .int .i64 y3, .int .i64 y4] 39)).ownsRow w.heap.size 39 4 (.slice au r0.length cu) r0.length (cellsO r0)) := by (have h := HB6.out.1.u.2.1 0 HH1.out; rw [HR0.out, HU0.out] at h; exact h)
     have hs6 : w.heap.size ≤ w17.heap.size := HB17x.out.2.2.size
     refine wpAnyZ_ready (rs := [18]) (by kernel_rfl) (by simp) ?_
     refine AllReadyZ.cons (o := { dst := some 68, op := Op.buildSlice 37 1 #[(0, Operand.tmp 67)], type := 37, pos := _, after := _, guard := none }) rfl (fun K hK => ?_) AllReadyZ.nil
     go_simp
     refine hK.out _ _ HQ6.out (fun hHeld => ?_)
     clear hK K
     try simp only [Act.put, List.setIfInBounds_toArray, List.set_cons_zero, List.set_cons_succ]
     refine wpAnyZ_ready (rs := [19]) (by kernel_rfl) (by simp) ?_
     refine AllReadyZ.cons (o := { dst := some 69, op := Op.call { callee := Callee.builtin Builtin.append, args := #[Operand.tmp 55, Operand.tmp 68], argTypes := #[37, 37] }, type := 37, pos := _, after := _, guard := none }) rfl (fun K hK => ?_) AllReadyZ.nil
     refine step_append_own2 (w := (w17.alloc (.cells #[.int .i64 (y1 - 1), .int .i64 (y2 - 1), .int .i64 y3, .int .i64 y4] 39))) rfl (.tmp 55) (.tmp 68) 37 rfl w.heap.size 39 i8 (.agg #[.int .i64 0, .int .i64 0, .int .i64 0, .int .i64 0]) 4 32 Tryz.underlying37 hi8 hoz0 hoz1 hoz2 rfl (by decide) (.slice au r0.length cu) r0.length (cellsO r0) rfl HW6.out ⟨w17.heap.size, 0, none⟩ 1 1 (cellsO [⟨y1 - 1, y2 - 1, y3, y4⟩]) rfl rfl (at_newO w17 ⟨y1 - 1, y2 - 1, y3, y4⟩) (fun u hu => by (simp [cellsO, O.cs] at hu; rcases hu with rfl | rfl | rfl | rfl <;> rfl)) (by unfold maxLen; omega) (by omega) (Nat.le_trans hs6 (sza w17 _)) ?_
     intro v7 w7 hown7 hgrow7 hnew7
     obtain ⟨a7, c7, hv7⟩ := owns_slice hown7
     subst hv7
     rw [← HU0.out] at hgrow7 hnew7
     have hb7 := HB6.out.1.b.turns (grown_turns hgrow7) (owns_ne (HB6.out.1.u.2.1 0 HH1.out) HB6.out.1.b (by decide))
     have hh7 := owns_turns HB6.out.1.h (grown_turns hgrow7) (fun k hk e => owns_apart (HB6.out.1.u.2.1 0 HH1.out) HB6.out.1.h (by decide) e hk)
     obtain ⟨gq, cq, hgq, _, hgc7, hgf7⟩ := owns_some hh7 HH1.out
     obtain rfl : gh = gq := by simpa [Value.ownBlock] using congrArg Value.ownBlock hgq
     have hc7 : w7.cell? ⟨gh, 0, none⟩ = some (.slice au r0.length cu) := by (rw [hgc7 0 (by have := HH1.out; omega), ← HU0.out]; exact us0 (HB6.out.1.u.1 ▸ HH1.out))
     have hf7 := hgf7 0
     have HQ7 : Hid (w7.cell? ⟨Mb, 3, none⟩ = some (.slice (some ⟨gh, 0, none⟩) m.h.length ch) ∧ w7.cell? ⟨gh, 0, none⟩ = some (.slice au r0.length cu)) := ⟨hb7.cell rfl, hc7⟩
     clear hgq hgc7 hgf7 hh7 hb7
     refine hK.out _ _ HQ7.out (fun hHeld => ?_)
     clear hK K
     try simp only [Act.put, List.setIfInBounds_toArray, List.set_cons_zero, List.set_cons_succ]
     refine wpAnyZ_take (i := 20) (oi := { dst := some 70, op := Op.indexAddr 24 (Operand.tmp 51) (Operand.const (Value.int IntKind.i64 0)), type := 0, pos := _, after := _, guard := none }) (v := .pointer (some ⟨gh, 0, none⟩)) 20 [] rfl (by kernel_rfl) (by kernel_rfl) (by kernel_rfl) (by kernel_rfl) (by kernel_rfl) (fun _ _ _ h => h) (Or.inl ⟨by rfl, ?_⟩) (by assumption) ?_
     ·intro wX hSw
      try dsimp only at hSw
      go_simp
      try exact IntWalk.i64_in _ (by omega)
     try simp only [Act.put, List.setIfInBounds_toArray, List.set_cons_zero, List.set_cons_succ]
     refine wpAnyZ_ready (rs := [21]) (by kernel_rfl) (by simp) ?_
     refine AllReadyZ.last (o := { dst := none, op := Op.store 37 (Operand.tmp 70) (Operand.tmp 69), type := 0, pos := _, after := _, guard := none }) rfl (fun K hK => ?_)
     go_simp
     refine hK.out _ _ ?_
     clear hK K
     try simp only [Act.put, List.setIfInBounds_toArray, List.set_cons_zero, List.set_cons_succ]
     refine wpAnyZ_done (by kernel_rfl) ?_ _
     clear hc7 hf7 HQ6 HQ7
     obtain ⟨W8, hW⟩ : ∃ V, w7.setCell ⟨gh, 0, none⟩ (.slice a7 (r0.length + 1) c7) = V := ⟨_, rfl⟩
     have HD8 : Hid ((MB W8 w.heap.size w.heap.size Mb ⟨m.n, m.s, m.i, m.h.set 0 (r0 ++ [⟨y1 - 1, y2 - 1, y3, y4⟩]), m.e, m.z⟩ (.slice ai m.i.length ci) (.slice (some ⟨gh, 0, none⟩) m.h.length ch) (.slice ae m.e.length ce) (us.set 0 (.slice a7 (r0.length + 1) c7))) ∧ Cur W8 c ∧ Turns (fun k => k = c) w W8) := hW ▸ ⟨HB6.out.1.setH rfl HH1.out (by rw [List.length_append, cellsO_append]; exact hown7) hgrow7 hnew7, (HB6.out.2.1.grown hgrow7 (fun j e => by have := row_ge (HB6.out.1.u.2.1 0 HH1.out) e; omega)).put (by omega) _ _, (HB6.out.2.2.grownNew hgrow7 (fun j e => row_ge (HB6.out.1.u.2.1 0 HH1.out) e)).setNew hgB _ _⟩
     rw [hW]
     clear hW hown7 hgrow7 hnew7 HB6 HW6
     have HT8 : Hid (Tiny ⟨m.n, m.s, m.i, m.h.set 0 (r0 ++ [⟨y1 - 1, y2 - 1, y3, y4⟩]), m.e, m.z⟩) := tiny_setH HTY.out HH1.out (by simp; omega)
     have b0 := HD8.out.1.b.cell (i := 0) rfl
     have b1 := HD8.out.1.b.cell (i := 1) rfl
     have b2 := HD8.out.1.b.cell (i := 2) rfl
     have b3 := HD8.out.1.b.cell (i := 3) rfl
     have b4 := HD8.out.1.b.cell (i := 4) rfl
     have b5 := HD8.out.1.b.cell (i := 5) rfl
     have q0 := HD8.out.1.r.cell (i := 0) rfl
     have q1 := HD8.out.1.r.cell (i := 1) rfl
     have q2 := HD8.out.1.r.cell (i := 2) rfl
     have q3 := HD8.out.1.r.cell (i := 3) rfl
     have q4 := HD8.out.1.r.cell (i := 4) rfl
     have q5 := HD8.out.1.r.cell (i := 5) rfl
     have qf := HD8.out.1.r.free
     go_wp2
     clear q0 q1 q2 q3 q4 q5 qf b0 b1 b2 b3 b4 b5
     obtain ⟨X5, hX5⟩ : ∃ X5, put6 W8 w.heap.size (.int .i64 m.n) (.int .i64 m.s) (.slice ai m.i.length ci) (.slice (some ⟨gh, 0, none⟩) m.h.length ch) (.slice ae m.e.length ce) (.int .i64 m.z) = X5 := ⟨_, rfl⟩
     have hP := HD8.out.1.r.put6 (.int .i64 m.n) (.int .i64 m.s) (.slice ai m.i.length ci) (.slice (some ⟨gh, 0, none⟩) m.h.length ch) (.slice ae m.e.length ce) (.int .i64 m.z)
     have ht := put6_turns W8 w.heap.size (.int .i64 m.n) (.int .i64 m.s) (.slice ai m.i.length ci) (.slice (some ⟨gh, 0, none⟩) m.h.length ch) (.slice ae m.e.length ce) (.int .i64 m.z)
     rw [hX5] at hP ht
     unfold put6 at hX5
     rw [hX5]
     have t0 := hP.cell (i := 0) rfl
     have t1 := hP.cell (i := 1) rfl
     have t2 := hP.cell (i := 2) rfl
     have t3 := hP.cell (i := 3) rfl
     have t4 := hP.cell (i := 4) rfl
     have t5 := hP.cell (i := 5) rfl
     refine bodyPost_ret (v := .agg #[.int .i64 m.n, .int .i64 m.s, .slice ai m.i.length ci, .slice (some ⟨gh, 0, none⟩) m.h.length ch, .slice ae m.e.length ce, .int .i64 m.z]) (by simp [results, Tryz.results24, go_sem, t0, t1, t2, t3, t4, t5]) rfl ⟨⟨m.n, m.s, m.i, m.h.set 0 (r0 ++ [⟨y1 - 1, y2 - 1, y3, y4⟩]), m.e, m.z⟩, _, rfl, (HD8.out.1.mo ht).mdf, HT8.out, HD8.out.2.1.turns ht (fun j hj => by omega), HD8.out.2.2.trans' ht (Nat.le_refl _)⟩
    ·have HB14x : Hid ((MB (w11.alloc (.cells #[.int .i64 0, .int .i64 1, .int .i64 50, .int .i64 51] 3)) w.heap.size w.heap.size Mb m (.slice ai m.i.length ci) (.slice (some ⟨gh, 0, none⟩) m.h.length ch) (.slice ae m.e.length ce) us) ∧ Cur (w11.alloc (.cells #[.int .i64 0, .int .i64 1, .int .i64 50, .int .i64 51] 3)) c ∧ Turns (fun k => k = c) w (w11.alloc (.cells #[.int .i64 0, .int .i64 1, .int .i64 50, .int .i64 51] 3))) := ⟨HB11x.out.1.alloc _, HB11x.out.2.1.alloc _, HB11x.out.2.2.alloc _⟩
     have HL14 : Hid (ListAt (w11.alloc (.cells #[.int .i64 0, .int .i64 1, .int .i64 50, .int .i64 51] 3)) w11.heap.size 4 (fun y => 0 ≤ y ∧ y ≤ 51)) := lstOf w11 3 [0, 1, 50, 51] _ (by decide)
     have hsg14 : w.heap.size ≤ w11.heap.size := HB11x.out.2.2.size
     obtain ⟨G14, hG14⟩ : ∃ G, G = w11.heap.size := ⟨_, rfl⟩
     have hGc14 : ¬ G14 = c := by omega
     have HGL14 : Hid (ListAt (w11.alloc (.cells #[.int .i64 0, .int .i64 1, .int .i64 50, .int .i64 51] 3)) G14 4 (fun y => 0 ≤ y ∧ y ≤ 51)) := hG14 ▸ HL14.out
     have HQ14 : Hid ((w11.alloc (.cells #[.int .i64 0, .int .i64 1, .int .i64 50, .int .i64 51] 3)).cell? ⟨Mb, 3, none⟩ = some (.slice (some ⟨gh, 0, none⟩) m.h.length ch) ∧ (w11.alloc (.cells #[.int .i64 0, .int .i64 1, .int .i64 50, .int .i64 51] 3)).cell? ⟨gh, 0, none⟩ = some (.slice au r0.length cu)) := ⟨HB14x.out.1.b.cell rfl, by rw [← HU0.out]; exact (HB14x.out.1.row0 HH1.out).1⟩
     go_simp
     clear HL14 HB11x
     refine hK.out _ _ HQ14.out (fun hHeld => ?_)
     clear hK K
     try simp only [Act.put, List.setIfInBounds_toArray, List.set_cons_zero, List.set_cons_succ]
     refine wpAnyZ_ready (rs := [10]) (by kernel_rfl) (by simp) ?_
     refine AllReadyZ.cons (o := { dst := some 60, op := Op.call { callee := Callee.value (Operand.func 47), args := #[Operand.tmp 59, Operand.const (Value.int IntKind.i64 5)], argTypes := #[60, 3] }, type := 3, pos := _, after := _, guard := none }) rfl (fun K hK => ?_) AllReadyZ.nil
     go_simp
     refine (below_any c _ _ HB14x.out.2.1).mono ?_
     rintro e w18 ⟨y2, rfl, y20, y21, hC, hT⟩
     have y22 := y21 (by omega)
     have HB18x : Hid ((MB w18 w.heap.size w.heap.size Mb m (.slice ai m.i.length ci) (.slice (some ⟨gh, 0, none⟩) m.h.length ch) (.slice ae m.e.length ce) us) ∧ Cur w18 c ∧ Turns (fun k => k = c) w w18) := ⟨HB14x.out.1.keptC hcw (Nat.le_refl _) (by omega) hT, hC, HB14x.out.2.2.trans hT⟩
     have HL18 : Hid (ListAt w18 G14 4 (fun y => 0 ≤ y ∧ y ≤ 51)) := HGL14.out.turns hT (by omega)
     clear HGL14
     have HQ18 : Hid (w18.cell? ⟨Mb, 3, none⟩ = some (.slice (some ⟨gh, 0, none⟩) m.h.length ch) ∧ w18.cell? ⟨gh, 0, none⟩ = some (.slice au r0.length cu)) := ⟨HB18x.out.1.b.cell rfl, by rw [← HU0.out]; exact (HB18x.out.1.row0 HH1.out).1⟩
     clear hC hT y21 HB14x
     refine hK.out _ _ HQ18.out (fun hHeld => ?_)
     clear hK K
     try simp only [Act.put, List.setIfInBounds_toArray, List.set_cons_zero, List.set_cons_succ]
     refine wpAnyZ_take (i := 11) (oi := { dst := some 61, op := Op.binOp BinOp.sub 3 (Operand.tmp 60) (Operand.const (Value.int IntKind.i64 1)) 3, type := 3, pos := _, after := _, guard := none }) (v := .int .i64 (y2 - 1)) 11 [] rfl (by kernel_rfl) (by kernel_rfl) (by kernel_rfl) (by kernel_rfl) (by kernel_rfl) (fun _ _ _ h => h) (Or.inl ⟨by rfl, ?_⟩) (by assumption) ?_
     ·intro wX hSw
      try dsimp only at hSw
      go_simp
      try exact IntWalk.i64_in _ (by omega)
     try simp only [Act.put, List.setIfInBounds_toArray, List.set_cons_zero, List.set_cons_succ]
     refine wpAnyZ_ready (rs := [14]) (by kernel_rfl) (by simp) ?_
     refine AllReadyZ.cons (o := { dst := some 64, op := Op.call { callee := Callee.value (Operand.func 51), args := #[Operand.tmp 62, Operand.tmp 63], argTypes := #[60, 23] }, type := 3, pos := _, after := _, guard := none }) rfl (fun K hK => ?_) AllReadyZ.nil
     go_simp
     refine (pick_any c w11.heap.size 4 _ _ (by omega) (by omega) (by rw [← hG14]; exact hGc14) HB18x.out.2.1 (hG14 ▸ HL18.out)).mono ?_
     rintro e w19 ⟨y3, rfl, y30, hC, hT⟩
     have HB19x : Hid ((MB w19 w.heap.size w.heap.size Mb m (.slice ai m.i.length ci) (.slice (some ⟨gh, 0, none⟩) m.h.length ch) (.slice ae m.e.length ce) us) ∧ Cur w19 c ∧ Turns (fun k => k = c) w w19) := ⟨HB18x.out.1.keptC hcw (Nat.le_refl _) (by omega) hT, hC, HB18x.out.2.2.trans hT⟩
     have HQ19 : Hid (w19.cell? ⟨Mb, 3, none⟩ = some (.slice (some ⟨gh, 0, none⟩) m.h.length ch) ∧ w19.cell? ⟨gh, 0, none⟩ = some (.slice au r0.length cu)) := ⟨HB19x.out.1.b.cell rfl, by rw [← HU0.out]; exact (HB19x.out.1.row0 HH1.out).1⟩
     clear hC hT HB18x HL18
     refine hK.out _ _ HQ19.out (fun hHeld => ?_)
     clear hK K
     try simp only [Act.put, List.setIfInBounds_toArray, List.set_cons_zero, List.set_cons_succ]
     refine wpAnyZ_ready (rs := [16]) (by kernel_rfl) (by simp) ?_
     refine AllReadyZ.cons (o := { dst := some 66, op := Op.call { callee := Callee.value (Operand.func 47), args := #[Operand.tmp 65, Operand.const (Value.int IntKind.i64 4)], argTypes := #[60, 3] }, type := 3, pos := _, after := _, guard := none }) rfl (fun K hK => ?_) AllReadyZ.nil
     go_simp
     refine (below_any c _ _ HB19x.out.2.1).mono ?_
     rintro e w20 ⟨y4, rfl, y40, y41, hC, hT⟩
     have y42 := y41 (by omega)
     have HB20x : Hid ((MB w20 w.heap.size w.heap.size Mb m (.slice ai m.i.length ci) (.slice (some ⟨gh, 0, none⟩) m.h.length ch) (.slice ae m.e.length ce) us) ∧ Cur w20 c ∧ Turns (fun k => k = c) w w20) := ⟨HB19x.out.1.keptC hcw (Nat.le_refl _) (by omega) hT, hC, HB19x.out.2.2.trans hT⟩
     have HQ20 : Hid (w20.cell? ⟨Mb, 3, none⟩ = some (.slice (some ⟨gh, 0, none⟩) m.h.length ch) ∧ w20.cell? ⟨gh, 0, none⟩ = some (.slice au r0.length cu)) := ⟨HB20x.out.1.b.cell rfl, by rw [← HU0.out]; exact (HB20x.out.1.row0 HH1.out).1⟩
     clear hC hT y41 HB19x
     refine hK.out _ _ HQ20.out (fun hHeld => ?_)
     clear hK K
     try simp only [Act.put, List.setIfInBounds_toArray, List.set_cons_zero, List.set_cons_succ]
     refine wpAnyZ_take (i := 17) (oi := { dst := some 67, op := Op.build 39 #[(0, Operand.tmp 58), (1, Operand.tmp 61), (2, Operand.tmp 64), (3, Operand.tmp 66)], type := 39, pos := _, after := _, guard := none }) (v := .agg #[.int .i64 (y1 - 1), .int .i64 (y2 - 1), .int .i64 y3, .int .i64 y4]) 17 [] rfl (by kernel_rfl) (by kernel_rfl) (by kernel_rfl) (by kernel_rfl) (by kernel_rfl) (fun _ _ _ h => h) (Or.inl ⟨by rfl, ?_⟩) (by assumption) ?_
     ·intro wX hSw
      try dsimp only at hSw
      go_simp
      try exact IntWalk.i64_in _ (by omega)
     try simp only [Act.put, List.setIfInBounds_toArray, List.set_cons_zero, List.set_cons_succ]
     have HB6 : Hid ((MB (w20.alloc (.cells #[.int .i64 (y1 - 1), .int .i64 (y2 - 1), .int .i64 y3, .int .i64 y4] 39)) w.heap.size w.heap.size Mb m (.slice ai m.i.length ci) (.slice (some ⟨gh, 0, none⟩) m.h.length ch) (.slice ae m.e.length ce) us) ∧ Cur (w20.alloc (.cells #[.int .i64 (y1 - 1), .int .i64 (y2 - 1), .int .i64 y3, .int .i64 y4] 39)) c ∧ Turns (fun k => k = c) w (w20.alloc (.cells #[.int .i64 (y1 - 1), .int .i64 (y2 - 1), .int .i64 y3, .int .i64 y4] 39))) := ⟨HB20x.out.1.alloc _, HB20x.out.2.1.alloc _, HB20x.out.2.2.alloc _⟩
     have HQ6 : Hid ((w20.alloc (.cells #[.int .i64 (y1 - 1), .int .i64 (y2 - 1), .int .i64 y3, .int .i64 y4] 39)).cell? ⟨Mb, 3, none⟩ = some (.slice (some ⟨gh, 0, none⟩) m.h.length ch) ∧ (w20.alloc (.cells #[.int .i64 (y1 - 1), .int .i64 (y2 - 1), .int .i64 y3, .int .i64 y4] 39)).cell? ⟨gh, 0, none⟩ = some (.slice au r0.length cu)) := ⟨HB6.out.1.b.cell rfl, by rw [← HU0.out]; exact (HB6.out.1.row0 HH1.out).1⟩
     have HW6 : Hid ((w20.alloc (.cells #[.int .i64 (y1 - 1), .int .i64 (y2 - 1), .int .i64 y3, .int .i64 y4] 39)).ownsRow w.heap.size 39 4 (.slice au r0.length cu) r0.length (cellsO r0)) := by (have h := HB6.out.1.u.2.1 0 HH1.out; rw [HR0.out, HU0.out] at h; exact h)
     have hs6 : w.heap.size ≤ w20.heap.size := HB20x.out.2.2.size
     refine wpAnyZ_ready (rs := [18]) (by kernel_rfl) (by simp) ?_
     refine AllReadyZ.cons (o := { dst := some 68, op := Op.buildSlice 37 1 #[(0, Operand.tmp 67)], type := 37, pos := _, after := _, guard := none }) rfl (fun K hK => ?_) AllReadyZ.nil
     go_simp
     refine hK.out _ _ HQ6.out (fun hHeld => ?_)
     clear hK K
     try simp only [Act.put, List.setIfInBounds_toArray, List.set_cons_zero, List.set_cons_succ]
     refine wpAnyZ_ready (rs := [19]) (by kernel_rfl) (by simp) ?_
     refine AllReadyZ.cons (o := { dst := some 69, op := Op.call { callee := Callee.builtin Builtin.append, args := #[Operand.tmp 55, Operand.tmp 68], argTypes := #[37, 37] }, type := 37, pos := _, after := _, guard := none }) rfl (fun K hK => ?_) AllReadyZ.nil
     refine step_append_own2 (w := (w20.alloc (.cells #[.int .i64 (y1 - 1), .int .i64 (y2 - 1), .int .i64 y3, .int .i64 y4] 39))) rfl (.tmp 55) (.tmp 68) 37 rfl w.heap.size 39 i8 (.agg #[.int .i64 0, .int .i64 0, .int .i64 0, .int .i64 0]) 4 32 Tryz.underlying37 hi8 hoz0 hoz1 hoz2 rfl (by decide) (.slice au r0.length cu) r0.length (cellsO r0) rfl HW6.out ⟨w20.heap.size, 0, none⟩ 1 1 (cellsO [⟨y1 - 1, y2 - 1, y3, y4⟩]) rfl rfl (at_newO w20 ⟨y1 - 1, y2 - 1, y3, y4⟩) (fun u hu => by (simp [cellsO, O.cs] at hu; rcases hu with rfl | rfl | rfl | rfl <;> rfl)) (by unfold maxLen; omega) (by omega) (Nat.le_trans hs6 (sza w20 _)) ?_
     intro v7 w7 hown7 hgrow7 hnew7
     obtain ⟨a7, c7, hv7⟩ := owns_slice hown7
     subst hv7
     rw [← HU0.out] at hgrow7 hnew7
     have hb7 := HB6.out.1.b.turns (grown_turns hgrow7) (owns_ne (HB6.out.1.u.2.1 0 HH1.out) HB6.out.1.b (by decide))
     have hh7 := owns_turns HB6.out.1.h (grown_turns hgrow7) (fun k hk e => owns_apart (HB6.out.1.u.2.1 0 HH1.out) HB6.out.1.h (by decide) e hk)
     obtain ⟨gq, cq, hgq, _, hgc7, hgf7⟩ := owns_some hh7 HH1.out
     obtain rfl : gh = gq := by simpa [Value.ownBlock] using congrArg Value.ownBlock hgq
     have hc7 : w7.cell? ⟨gh, 0, none⟩ = some (.slice au r0.length cu) := by (rw [hgc7 0 (by have := HH1.out; omega), ← HU0.out]; exact us0 (HB6.out.1.u.1 ▸ HH1.out))
     have hf7 := hgf7 0
     have HQ7 : Hid (w7.cell? ⟨Mb, 3, none⟩ = some (.slice (some ⟨gh, 0, none⟩) m.h.length ch) ∧ w7.cell? ⟨gh, 0, none⟩ = some (.slice au r0.length cu)) := ⟨hb7.cell rfl, hc7⟩
     clear hgq hgc7 hgf7 hh7 hb7
     refine hK.out _ _ HQ7.out (fun hHeld => ?_)
     clear hK K
     try simp only [Act.put, List.setIfInBounds_toArray, List.set_cons_zero, List.set_cons_succ]
     refine wpAnyZ_take (i := 20) (oi := { dst := some 70, op := Op.indexAddr 24 (Operand.tmp 51) (Operand.const (Value.int IntKind.i64 0)), type := 0, pos := _, after := _, guard := none }) (v := .pointer (some ⟨gh, 0, none⟩)) 20 [] rfl (by kernel_rfl) (by kernel_rfl) (by kernel_rfl) (by kernel_rfl) (by kernel_rfl) (fun _ _ _ h => h) (Or.inl ⟨by rfl, ?_⟩) (by assumption) ?_
     ·intro wX hSw
      try dsimp only at hSw
      go_simp
      try exact IntWalk.i64_in _ (by omega)
     try simp only [Act.put, List.setIfInBounds_toArray, List.set_cons_zero, List.set_cons_succ]
     refine wpAnyZ_ready (rs := [21]) (by kernel_rfl) (by simp) ?_
     refine AllReadyZ.last (o := { dst := none, op := Op.store 37 (Operand.tmp 70) (Operand.tmp 69), type := 0, pos := _, after := _, guard := none }) rfl (fun K hK => ?_)
     go_simp
     refine hK.out _ _ ?_
     clear hK K
     try simp only [Act.put, List.setIfInBounds_toArray, List.set_cons_zero, List.set_cons_succ]
     refine wpAnyZ_done (by kernel_rfl) ?_ _
     clear hc7 hf7 HQ6 HQ7
     obtain ⟨W8, hW⟩ : ∃ V, w7.setCell ⟨gh, 0, none⟩ (.slice a7 (r0.length + 1) c7) = V := ⟨_, rfl⟩
     have HD8 : Hid ((MB W8 w.heap.size w.heap.size Mb ⟨m.n, m.s, m.i, m.h.set 0 (r0 ++ [⟨y1 - 1, y2 - 1, y3, y4⟩]), m.e, m.z⟩ (.slice ai m.i.length ci) (.slice (some ⟨gh, 0, none⟩) m.h.length ch) (.slice ae m.e.length ce) (us.set 0 (.slice a7 (r0.length + 1) c7))) ∧ Cur W8 c ∧ Turns (fun k => k = c) w W8) := hW ▸ ⟨HB6.out.1.setH rfl HH1.out (by rw [List.length_append, cellsO_append]; exact hown7) hgrow7 hnew7, (HB6.out.2.1.grown hgrow7 (fun j e => by have := row_ge (HB6.out.1.u.2.1 0 HH1.out) e; omega)).put (by omega) _ _, (HB6.out.2.2.grownNew hgrow7 (fun j e => row_ge (HB6.out.1.u.2.1 0 HH1.out) e)).setNew hgB _ _⟩
     rw [hW]
     clear hW hown7 hgrow7 hnew7 HB6 HW6
     have HT8 : Hid (Tiny ⟨m.n, m.s, m.i, m.h.set 0 (r0 ++ [⟨y1 - 1, y2 - 1, y3, y4⟩]), m.e, m.z⟩) := tiny_setH HTY.out HH1.out (by simp; omega)
     have b0 := HD8.out.1.b.cell (i := 0) rfl
     have b1 := HD8.out.1.b.cell (i := 1) rfl
     have b2 := HD8.out.1.b.cell (i := 2) rfl
     have b3 := HD8.out.1.b.cell (i := 3) rfl
     have b4 := HD8.out.1.b.cell (i := 4) rfl
     have b5 := HD8.out.1.b.cell (i := 5) rfl
     have q0 := HD8.out.1.r.cell (i := 0) rfl
     have q1 := HD8.out.1.r.cell (i := 1) rfl
     have q2 := HD8.out.1.r.cell (i := 2) rfl
     have q3 := HD8.out.1.r.cell (i := 3) rfl
     have q4 := HD8.out.1.r.cell (i := 4) rfl
     have q5 := HD8.out.1.r.cell (i := 5) rfl
     have qf := HD8.out.1.r.free
     go_wp2
     clear q0 q1 q2 q3 q4 q5 qf b0 b1 b2 b3 b4 b5
     obtain ⟨X5, hX5⟩ : ∃ X5, put6 W8 w.heap.size (.int .i64 m.n) (.int .i64 m.s) (.slice ai m.i.length ci) (.slice (some ⟨gh, 0, none⟩) m.h.length ch) (.slice ae m.e.length ce) (.int .i64 m.z) = X5 := ⟨_, rfl⟩
     have hP := HD8.out.1.r.put6 (.int .i64 m.n) (.int .i64 m.s) (.slice ai m.i.length ci) (.slice (some ⟨gh, 0, none⟩) m.h.length ch) (.slice ae m.e.length ce) (.int .i64 m.z)
     have ht := put6_turns W8 w.heap.size (.int .i64 m.n) (.int .i64 m.s) (.slice ai m.i.length ci) (.slice (some ⟨gh, 0, none⟩) m.h.length ch) (.slice ae m.e.length ce) (.int .i64 m.z)
     rw [hX5] at hP ht
     unfold put6 at hX5
     rw [hX5]
     have t0 := hP.cell (i := 0) rfl
     have t1 := hP.cell (i := 1) rfl
     have t2 := hP.cell (i := 2) rfl
     have t3 := hP.cell (i := 3) rfl
     have t4 := hP.cell (i := 4) rfl
     have t5 := hP.cell (i := 5) rfl
     refine bodyPost_ret (v := .agg #[.int .i64 m.n, .int .i64 m.s, .slice ai m.i.length ci, .slice (some ⟨gh, 0, none⟩) m.h.length ch, .slice ae m.e.length ce, .int .i64 m.z]) (by simp [results, Tryz.results24, go_sem, t0, t1, t2, t3, t4, t5]) rfl ⟨⟨m.n, m.s, m.i, m.h.set 0 (r0 ++ [⟨y1 - 1, y2 - 1, y3, y4⟩]), m.e, m.z⟩, _, rfl, (HD8.out.1.mo ht).mdf, HT8.out, HD8.out.2.1.turns ht (fun j hj => by omega), HD8.out.2.2.trans' ht (Nat.le_refl _)⟩
   ·have HB12x : Hid ((MB (w3.drew.alloc (.cells #[.int .i64 0, .int .i64 1, .int .i64 50, .int .i64 51] 3)) w.heap.size w.heap.size Mb m (.slice ai m.i.length ci) (.slice (some ⟨gh, 0, none⟩) m.h.length ch) (.slice ae m.e.length ce) us) ∧ Cur (w3.drew.alloc (.cells #[.int .i64 0, .int .i64 1, .int .i64 50, .int .i64 51] 3)) c ∧ Turns (fun k => k = c) w (w3.drew.alloc (.cells #[.int .i64 0, .int .i64 1, .int .i64 50, .int .i64 51] 3))) := ⟨HA0.out.1.alloc _, HA0.out.2.1.alloc _, HA0.out.2.2.alloc _⟩
    have HL12 : Hid (ListAt (w3.drew.alloc (.cells #[.int .i64 0, .int .i64 1, .int .i64 50, .int .i64 51] 3)) w3.drew.heap.size 4 (fun y => 0 ≤ y ∧ y ≤ 51)) := lstOf w3.drew 3 [0, 1, 50, 51] _ (by decide)
    have hsg12 : w.heap.size ≤ w3.drew.heap.size := HA0.out.2.2.size
    obtain ⟨G12, hG12⟩ : ∃ G, G = w3.drew.heap.size := ⟨_, rfl⟩
    have hGc12 : ¬ G12 = c := by omega
    have HGL12 : Hid (ListAt (w3.drew.alloc (.cells #[.int .i64 0, .int .i64 1, .int .i64 50, .int .i64 51] 3)) G12 4 (fun y => 0 ≤ y ∧ y ≤ 51)) := hG12 ▸ HL12.out
    have HQ12 : Hid ((w3.drew.alloc (.cells #[.int .i64 0, .int .i64 1, .int .i64 50, .int .i64 51] 3)).cell? ⟨Mb, 3, none⟩ = some (.slice (some ⟨gh, 0, none⟩) m.h.length ch) ∧ (w3.drew.alloc (.cells #[.int .i64 0, .int .i64 1, .int .i64 50, .int .i64 51] 3)).cell? ⟨gh, 0, none⟩ = some (.slice au r0.length cu)) := ⟨HB12x.out.1.b.cell rfl, by rw [← HU0.out]; exact (HB12x.out.1.row0 HH1.out).1⟩
    go_simp
    clear HL12 HA0
    refine hK.out _ _ HQ12.out (fun hHeld => ?_)
    clear hK K
    try simp only [Act.put, List.setIfInBounds_toArray, List.set_cons_zero, List.set_cons_succ]
    refine wpAnyZ_ready (rs := [7]) (by kernel_rfl) (by simp) ?_
    refine AllReadyZ.cons (o := { dst := some 57, op := Op.call { callee := Callee.value (Operand.func 47), args := #[Operand.tmp 56, Operand.const (Value.int IntKind.i64 9)], argTypes := #[60, 3] }, type := 3, pos := _, after := _, guard := none }) rfl (fun K hK => ?_) AllReadyZ.nil
    go_simp
    refine (below_any c _ _ HB12x.out.2.1).mono ?_
    rintro e w21 ⟨y1, rfl, y10, y11, hC, hT⟩
    have y12 := y11 (by omega)
    have HB21x : Hid ((MB w21 w.heap.size w.heap.size Mb m (.slice ai m.i.length ci) (.slice (some ⟨gh, 0, none⟩) m.h.length ch) (.slice ae m.e.length ce) us) ∧ Cur w21 c ∧ Turns (fun k => k = c) w w21) := ⟨HB12x.out.1.keptC hcw (Nat.le_refl _) (by omega) hT, hC, HB12x.out.2.2.trans hT⟩
    have HL21 : Hid (ListAt w21 G12 4 (fun y => 0 ≤ y ∧ y ≤ 51)) := HGL12.out.turns hT (by omega)
    clear HGL12
    have HQ21 : Hid (w21.cell? ⟨Mb, 3, none⟩ = some (.slice (some ⟨gh, 0, none⟩) m.h.length ch) ∧ w21.cell? ⟨gh, 0, none⟩ = some (.slice au r0.length cu)) := ⟨HB21x.out.1.b.cell rfl, by rw [← HU0.out]; exact (HB21x.out.1.row0 HH1.out).1⟩
    clear hC hT y11 HB12x
    refine hK.out _ _ HQ21.out (fun hHeld => ?_)
    clear hK K
    try simp only [Act.put, List.setIfInBounds_toArray, List.set_cons_zero, List.set_cons_succ]
    refine wpAnyZ_take (i := 8) (oi := { dst := some 58, op := Op.binOp BinOp.sub 3 (Operand.tmp 57) (Operand.const (Value.int IntKind.i64 1)) 3, type := 3, pos := _, after := _, guard := none }) (v := .int .i64 (y1 - 1)) 8 [] rfl (by kernel_rfl) (by kernel_rfl) (by kernel_rfl) (by kernel_rfl) (by kernel_rfl) (fun _ _ _ h => h) (Or.inl ⟨by rfl, ?_⟩) (by assumption) ?_
    ·intro wX hSw
     try dsimp only at hSw
     go_simp
     try exact IntWalk.i64_in _ (by omega)
    try simp only [Act.put, List.setIfInBounds_toArray, List.set_cons_zero, List.set_cons_succ]
    refine wpAnyZ_ready (rs := [10]) (by kernel_rfl) (by simp) ?_
    refine AllReadyZ.cons (o := { dst := some 60, op := Op.call { callee := Callee.value (Operand.func 47), args := #[Operand.tmp 59, Operand.const (Value.int IntKind.i64 5)], argTypes := #[60, 3] }, type := 3, pos := _, after := _, guard := none }) rfl (fun K hK => ?_) AllReadyZ.nil
    go_simp
    refine (below_any c _ _ HB21x.out.2.1).mono ?_
    rintro e w22 ⟨y2, rfl, y20, y21, hC, hT⟩
    have y22 := y21 (by omega)
    have HB22x : Hid ((MB w22 w.heap.size w.heap.size Mb m (.slice ai m.i.length ci) (.slice (some ⟨gh, 0, none⟩) m.h.length ch) (.slice ae m.e.length ce) us) ∧ Cur w22 c ∧ Turns (fun k => k = c) w w22) := ⟨HB21x.out.1.keptC hcw (Nat.le_refl _) (by omega) hT, hC, HB21x.out.2.2.trans hT⟩
    have HL22 : Hid (ListAt w22 G12 4 (fun y => 0 ≤ y ∧ y ≤ 51)) := HL21.out.turns hT (by omega)
    clear HL21
    have HQ22 : Hid (w22.cell? ⟨Mb, 3, none⟩ = some (.slice (some ⟨gh, 0, none⟩) m.h.length ch) ∧ w22.cell? ⟨gh, 0, none⟩ = some (.slice au r0.length cu)) := ⟨HB22x.out.1.b.cell rfl, by rw [← HU0.out]; exact (HB22x.out.1.row0 HH1.out).1⟩
    clear hC hT y21 HB21x
    refine hK.out _ _ HQ22.out (fun hHeld => ?_)
    clear hK K
    try simp only [Act.put, List.setIfInBounds_toArray, List.set_cons_zero, List.set_cons_succ]
    refine wpAnyZ_take (i := 11) (oi := { dst := some 61, op := Op.binOp BinOp.sub 3 (Operand.tmp 60) (Operand.const (Value.int IntKind.i64 1)) 3, type := 3, pos := _, after := _, guard := none }) (v := .int .i64 (y2 - 1)) 11 [] rfl (by kernel_rfl) (by kernel_rfl) (by kernel_rfl) (by kernel_rfl) (by kernel_rfl) (fun _ _ _ h => h) (Or.inl ⟨by rfl, ?_⟩) (by assumption) ?_
    ·intro wX hSw
     try dsimp only at hSw
     go_simp
     try exact IntWalk.i64_in _ (by omega)
    try simp only [Act.put, List.setIfInBounds_toArray, List.set_cons_zero, List.set_cons_succ]
    refine wpAnyZ_ready (rs := [14]) (by kernel_rfl) (by simp) ?_
    refine AllReadyZ.cons (o := { dst := some 64, op := Op.call { callee := Callee.value (Operand.func 51), args := #[Operand.tmp 62, Operand.tmp 63], argTypes := #[60, 23] }, type := 3, pos := _, after := _, guard := none }) rfl (fun K hK => ?_) AllReadyZ.nil
    go_simp
    refine (pick_any c w3.drew.heap.size 4 _ _ (by omega) (by omega) (by rw [← hG12]; exact hGc12) HB22x.out.2.1 (hG12 ▸ HL22.out)).mono ?_
    rintro e w23 ⟨y3, rfl, y30, hC, hT⟩
    have HB23x : Hid ((MB w23 w.heap.size w.heap.size Mb m (.slice ai m.i.length ci) (.slice (some ⟨gh, 0, none⟩) m.h.length ch) (.slice ae m.e.length ce) us) ∧ Cur w23 c ∧ Turns (fun k => k = c) w w23) := ⟨HB22x.out.1.keptC hcw (Nat.le_refl _) (by omega) hT, hC, HB22x.out.2.2.trans hT⟩
    have HQ23 : Hid (w23.cell? ⟨Mb, 3, none⟩ = some (.slice (some ⟨gh, 0, none⟩) m.h.length ch) ∧ w23.cell? ⟨gh, 0, none⟩ = some (.slice au r0.length cu)) := ⟨HB23x.out.1.b.cell rfl, by rw [← HU0.out]; exact (HB23x.out.1.row0 HH1.out).1⟩
    clear hC hT HB22x HL22
    refine hK.out _ _ HQ23.out (fun hHeld => ?_)
    clear hK K
    try simp only [Act.put, List.setIfInBounds_toArray, List.set_cons_zero, List.set_cons_succ]
    refine wpAnyZ_ready (rs := [16]) (by kernel_rfl) (by simp) ?_
    refine AllReadyZ.cons (o := { dst := some 66, op := Op.call { callee := Callee.value (Operand.func 47), args := #[Operand.tmp 65, Operand.const (Value.int IntKind.i64 4)], argTypes := #[60, 3] }, type := 3, pos := _, after := _, guard := none }) rfl (fun K hK => ?_) AllReadyZ.nil
    go_simp
    refine (below_any c _ _ HB23x.out.2.1).mono ?_
    rintro e w24 ⟨y4, rfl, y40, y41, hC, hT⟩
    have y42 := y41 (by omega)
    have HB24x : Hid ((MB w24 w.heap.size w.heap.size Mb m (.slice ai m.i.length ci) (.slice (some ⟨gh, 0, none⟩) m.h.length ch) (.slice ae m.e.length ce) us) ∧ Cur w24 c ∧ Turns (fun k => k = c) w w24) := ⟨HB23x.out.1.keptC hcw (Nat.le_refl _) (by omega) hT, hC, HB23x.out.2.2.trans hT⟩
    have HQ24 : Hid (w24.cell? ⟨Mb, 3, none⟩ = some (.slice (some ⟨gh, 0, none⟩) m.h.length ch) ∧ w24.cell? ⟨gh, 0, none⟩ = some (.slice au r0.length cu)) := ⟨HB24x.out.1.b.cell rfl, by rw [← HU0.out]; exact (HB24x.out.1.row0 HH1.out).1⟩
    clear hC hT y41 HB23x
    refine hK.out _ _ HQ24.out (fun hHeld => ?_)
    clear hK K
    try simp only [Act.put, List.setIfInBounds_toArray, List.set_cons_zero, List.set_cons_succ]
    refine wpAnyZ_take (i := 17) (oi := { dst := some 67, op := Op.build 39 #[(0, Operand.tmp 58), (1, Operand.tmp 61), (2, Operand.tmp 64), (3, Operand.tmp 66)], type := 39, pos := _, after := _, guard := none }) (v := .agg #[.int .i64 (y1 - 1), .int .i64 (y2 - 1), .int .i64 y3, .int .i64 y4]) 17 [] rfl (by kernel_rfl) (by kernel_rfl) (by kernel_rfl) (by kernel_rfl) (by kernel_rfl) (fun _ _ _ h => h) (Or.inl ⟨by rfl, ?_⟩) (by assumption) ?_
    ·intro wX hSw
     try dsimp only at hSw
     go_simp
     try exact IntWalk.i64_in _ (by omega)
    try simp only [Act.put, List.setIfInBounds_toArray, List.set_cons_zero, List.set_cons_succ]
    have HB6 : Hid ((MB (w24.alloc (.cells #[.int .i64 (y1 - 1), .int .i64 (y2 - 1), .int .i64 y3, .int .i64 y4] 39)) w.heap.size w.heap.size Mb m (.slice ai m.i.length ci) (.slice (some ⟨gh, 0, none⟩) m.h.length ch) (.slice ae m.e.length ce) us) ∧ Cur (w24.alloc (.cells #[.int .i64 (y1 - 1), .int .i64 (y2 - 1), .int .i64 y3, .int .i64 y4] 39)) c ∧ Turns (fun k => k = c) w (w24.alloc (.cells #[.int .i64 (y1 - 1), .int .i64 (y2 - 1), .int .i64 y3, .int .i64 y4] 39))) := ⟨HB24x.out.1.alloc _, HB24x.out.2.1.alloc _, HB24x.out.2.2.alloc _⟩
    have HQ6 : Hid ((w24.alloc (.cells #[.int .i64 (y1 - 1), .int .i64 (y2 - 1), .int .i64 y3, .int .i64 y4] 39)).cell? ⟨Mb, 3, none⟩ = some (.slice (some ⟨gh, 0, none⟩) m.h.length ch) ∧ (w24.alloc (.cells #[.int .i64 (y1 - 1), .int .i64 (y2 - 1), .int .i64 y3, .int .i64 y4] 39)).cell? ⟨gh, 0, none⟩ = some (.slice au r0.length cu)) := ⟨HB6.out.1.b.cell rfl, by rw [← HU0.out]; exact (HB6.out.1.row0 HH1.out).1⟩
    have HW6 : Hid ((w24.alloc (.cells #[.int .i64 (y1 - 1), .int .i64 (y2 - 1), .int .i64 y3, .int .i64 y4] 39)).ownsRow w.heap.size 39 4 (.slice au r0.length cu) r0.length (cellsO r0)) := by (have h := HB6.out.1.u.2.1 0 HH1.out; rw [HR0.out, HU0.out] at h; exact h)
    have hs6 : w.heap.size ≤ w24.heap.size := HB24x.out.2.2.size
    refine wpAnyZ_ready (rs := [18]) (by kernel_rfl) (by simp) ?_
    refine AllReadyZ.cons (o := { dst := some 68, op := Op.buildSlice 37 1 #[(0, Operand.tmp 67)], type := 37, pos := _, after := _, guard := none }) rfl (fun K hK => ?_) AllReadyZ.nil
    go_simp
    refine hK.out _ _ HQ6.out (fun hHeld => ?_)
    clear hK K
    try simp only [Act.put, List.setIfInBounds_toArray, List.set_cons_zero, List.set_cons_succ]
    refine wpAnyZ_ready (rs := [19]) (by kernel_rfl) (by simp) ?_
    refine AllReadyZ.cons (o := { dst := some 69, op := Op.call { callee := Callee.builtin Builtin.append, args := #[Operand.tmp 55, Operand.tmp 68], argTypes := #[37, 37] }, type := 37, pos := _, after := _, guard := none }) rfl (fun K hK => ?_) AllReadyZ.nil
    refine step_append_own2 (w := (w24.alloc (.cells #[.int .i64 (y1 - 1), .int .i64 (y2 - 1), .int .i64 y3, .int .i64 y4] 39))) rfl (.tmp 55) (.tmp 68) 37 rfl w.heap.size 39 i8 (.agg #[.int .i64 0, .int .i64 0, .int .i64 0, .int .i64 0]) 4 32 Tryz.underlying37 hi8 hoz0 hoz1 hoz2 rfl (by decide) (.slice au r0.length cu) r0.length (cellsO r0) rfl HW6.out ⟨w24.heap.size, 0, none⟩ 1 1 (cellsO [⟨y1 - 1, y2 - 1, y3, y4⟩]) rfl rfl (at_newO w24 ⟨y1 - 1, y2 - 1, y3, y4⟩) (fun u hu => by (simp [cellsO, O.cs] at hu; rcases hu with rfl | rfl | rfl | rfl <;> rfl)) (by unfold maxLen; omega) (by omega) (Nat.le_trans hs6 (sza w24 _)) ?_
    intro v7 w7 hown7 hgrow7 hnew7
    obtain ⟨a7, c7, hv7⟩ := owns_slice hown7
    subst hv7
    rw [← HU0.out] at hgrow7 hnew7
    have hb7 := HB6.out.1.b.turns (grown_turns hgrow7) (owns_ne (HB6.out.1.u.2.1 0 HH1.out) HB6.out.1.b (by decide))
    have hh7 := owns_turns HB6.out.1.h (grown_turns hgrow7) (fun k hk e => owns_apart (HB6.out.1.u.2.1 0 HH1.out) HB6.out.1.h (by decide) e hk)
    obtain ⟨gq, cq, hgq, _, hgc7, hgf7⟩ := owns_some hh7 HH1.out
    obtain rfl : gh = gq := by simpa [Value.ownBlock] using congrArg Value.ownBlock hgq
    have hc7 : w7.cell? ⟨gh, 0, none⟩ = some (.slice au r0.length cu) := by (rw [hgc7 0 (by have := HH1.out; omega), ← HU0.out]; exact us0 (HB6.out.1.u.1 ▸ HH1.out))
    have hf7 := hgf7 0
    have HQ7 : Hid (w7.cell? ⟨Mb, 3, none⟩ = some (.slice (some ⟨gh, 0, none⟩) m.h.length ch) ∧ w7.cell? ⟨gh, 0, none⟩ = some (.slice au r0.length cu)) := ⟨hb7.cell rfl, hc7⟩
    clear hgq hgc7 hgf7 hh7 hb7
    refine hK.out _ _ HQ7.out (fun hHeld => ?_)
    clear hK K
    try simp only [Act.put, List.setIfInBounds_toArray, List.set_cons_zero, List.set_cons_succ]
    refine wpAnyZ_take (i := 20) (oi := { dst := some 70, op := Op.indexAddr 24 (Operand.tmp 51) (Operand.const (Value.int IntKind.i64 0)), type := 0, pos := _, after := _, guard := none }) (v := .pointer (some ⟨gh, 0, none⟩)) 20 [] rfl (by kernel_rfl) (by kernel_rfl) (by kernel_rfl) (by kernel_rfl) (by kernel_rfl) (fun _ _ _ h => h) (Or.inl ⟨by rfl, ?_⟩) (by assumption) ?_
    ·intro wX hSw
     try dsimp only at hSw
     go_simp
     try exact IntWalk.i64_in _ (by omega)
    try simp only [Act.put, List.setIfInBounds_toArray, List.set_cons_zero, List.set_cons_succ]
    refine wpAnyZ_ready (rs := [21]) (by kernel_rfl) (by simp) ?_
    refine AllReadyZ.last (o := { dst := none, op := Op.store 37 (Operand.tmp 70) (Operand.tmp 69), type := 0, pos := _, after := _, guard := none }) rfl (fun K hK => ?_)
    go_simp
    refine hK.out _ _ ?_
    clear hK K
    try simp only [Act.put, List.setIfInBounds_toArray, List.set_cons_zero, List.set_cons_succ]
    refine wpAnyZ_done (by kernel_rfl) ?_ _
    clear hc7 hf7 HQ6 HQ7
    obtain ⟨W8, hW⟩ : ∃ V, w7.setCell ⟨gh, 0, none⟩ (.slice a7 (r0.length + 1) c7) = V := ⟨_, rfl⟩
    have HD8 : Hid ((MB W8 w.heap.size w.heap.size Mb ⟨m.n, m.s, m.i, m.h.set 0 (r0 ++ [⟨y1 - 1, y2 - 1, y3, y4⟩]), m.e, m.z⟩ (.slice ai m.i.length ci) (.slice (some ⟨gh, 0, none⟩) m.h.length ch) (.slice ae m.e.length ce) (us.set 0 (.slice a7 (r0.length + 1) c7))) ∧ Cur W8 c ∧ Turns (fun k => k = c) w W8) := hW ▸ ⟨HB6.out.1.setH rfl HH1.out (by rw [List.length_append, cellsO_append]; exact hown7) hgrow7 hnew7, (HB6.out.2.1.grown hgrow7 (fun j e => by have := row_ge (HB6.out.1.u.2.1 0 HH1.out) e; omega)).put (by omega) _ _, (HB6.out.2.2.grownNew hgrow7 (fun j e => row_ge (HB6.out.1.u.2.1 0 HH1.out) e)).setNew hgB _ _⟩
    rw [hW]
    clear hW hown7 hgrow7 hnew7 HB6 HW6
    have HT8 : Hid (Tiny ⟨m.n, m.s, m.i, m.h.set 0 (r0 ++ [⟨y1 - 1, y2 - 1, y3, y4⟩]), m.e, m.z⟩) := tiny_setH HTY.out HH1.out (by simp; omega)
    have b0 := HD8.out.1.b.cell (i := 0) rfl
    have b1 := HD8.out.1.b.cell (i := 1) rfl
    have b2 := HD8.out.1.b.cell (i := 2) rfl
    have b3 := HD8.out.1.b.cell (i := 3) rfl
    have b4 := HD8.out.1.b.cell (i := 4) rfl
    have b5 := HD8.out.1.b.cell (i := 5) rfl
    have q0 := HD8.out.1.r.cell (i := 0) rfl
    have q1 := HD8.out.1.r.cell (i := 1) rfl
    have q2 := HD8.out.1.r.cell (i := 2) rfl
    have q3 := HD8.out.1.r.cell (i := 3) rfl
    have q4 := HD8.out.1.r.cell (i := 4) rfl
    have q5 := HD8.out.1.r.cell (i := 5) rfl
    have qf := HD8.out.1.r.free
    go_wp2
    clear q0 q1 q2 q3 q4 q5 qf b0 b1 b2 b3 b4 b5
    obtain ⟨X5, hX5⟩ : ∃ X5, put6 W8 w.heap.size (.int .i64 m.n) (.int .i64 m.s) (.slice ai m.i.length ci) (.slice (some ⟨gh, 0, none⟩) m.h.length ch) (.slice ae m.e.length ce) (.int .i64 m.z) = X5 := ⟨_, rfl⟩
    have hP := HD8.out.1.r.put6 (.int .i64 m.n) (.int .i64 m.s) (.slice ai m.i.length ci) (.slice (some ⟨gh, 0, none⟩) m.h.length ch) (.slice ae m.e.length ce) (.int .i64 m.z)
    have ht := put6_turns W8 w.heap.size (.int .i64 m.n) (.int .i64 m.s) (.slice ai m.i.length ci) (.slice (some ⟨gh, 0, none⟩) m.h.length ch) (.slice ae m.e.length ce) (.int .i64 m.z)
    rw [hX5] at hP ht
    unfold put6 at hX5
    rw [hX5]
    have t0 := hP.cell (i := 0) rfl
    have t1 := hP.cell (i := 1) rfl
    have t2 := hP.cell (i := 2) rfl
    have t3 := hP.cell (i := 3) rfl
    have t4 := hP.cell (i := 4) rfl
    have t5 := hP.cell (i := 5) rfl
    refine bodyPost_ret (v := .agg #[.int .i64 m.n, .int .i64 m.s, .slice ai m.i.length ci, .slice (some ⟨gh, 0, none⟩) m.h.length ch, .slice ae m.e.length ce, .int .i64 m.z]) (by simp [results, Tryz.results24, go_sem, t0, t1, t2, t3, t4, t5]) rfl ⟨⟨m.n, m.s, m.i, m.h.set 0 (r0 ++ [⟨y1 - 1, y2 - 1, y3, y4⟩]), m.e, m.z⟩, _, rfl, (HD8.out.1.mo ht).mdf, HT8.out, HD8.out.2.1.turns ht (fun j hj => by omega), HD8.out.2.2.trans' ht (Nat.le_refl _)⟩
  ·obtain ⟨ge, ce', hge, hgB, hgc, hgf⟩ := owns_some HD3.out.1.e HE1.out
   obtain ⟨hae, hce⟩ : ae = some ⟨ge, 0, none⟩ ∧ ce = ce' := by simpa using hge
   subst hae hce
   obtain ⟨e0, er, her⟩ : ∃ e0 er, m.e = e0 :: er := by (cases h : m.e with | nil => (have := HE1.out; rw [h] at this; simp at this) | cons a b => exact ⟨a, b, rfl⟩)
   have HER : Hid (m.e = e0 :: er) := her
   clear her
   have hel : ¬ m.e = [] := by (have := HE1.out; intro e; rw [e] at this; simp at this)
   clear hgc hgf hge
   have HL : Hid (ListAt (w3.drew.alloc (.cells #[.int .i64 0, .int .i64 1] 3)) w3.drew.heap.size 2 (fun y => 0 ≤ y ∧ y ≤ 1)) := lstOf w3.drew 3 [0, 1] _ (by decide)
   have HA0 : Hid ((MB w3.drew w.heap.size w.heap.size Mb m (.slice ai m.i.length ci) (.slice ah m.h.length ch) (.slice (some ⟨ge, 0, none⟩) m.e.length ce) us) ∧ Cur w3.drew c ∧ Turns (fun k => k = c) w w3.drew) := ⟨HD3.out.1.drew, HD3.out.2.1.drew, ⟨HD3.out.2.2.os, HD3.out.2.2.tape, HD3.out.2.2.output, HD3.out.2.2.size, HD3.out.2.2.block⟩⟩
   have HA : Hid ((MB (w3.drew.alloc (.cells #[.int .i64 0, .int .i64 1] 3)) w.heap.size w.heap.size Mb m (.slice ai m.i.length ci) (.slice ah m.h.length ch) (.slice (some ⟨ge, 0, none⟩) m.e.length ce) us) ∧ Cur (w3.drew.alloc (.cells #[.int .i64 0, .int .i64 1] 3)) c ∧ Turns (fun k => k = c) w (w3.drew.alloc (.cells #[.int .i64 0, .int .i64 1] 3))) := ⟨HA0.out.1.alloc _, HA0.out.2.1.alloc _, HA0.out.2.2.alloc _⟩
   have HS : Hid (w.heap.size ≤ w3.drew.heap.size) := HA0.out.2.2.size
   have HK : Hid (w3.drew.cell? ⟨Mb, 4, none⟩ = some (.slice (some ⟨ge, 0, none⟩) m.e.length ce)) := HA0.out.1.b.cell rfl
   have HK1 : Hid ((w3.drew.alloc (.cells #[.int .i64 0, .int .i64 1] 3)).cell? ⟨Mb, 4, none⟩ = some (.slice (some ⟨ge, 0, none⟩) m.e.length ce)) := HA.out.1.b.cell rfl
   go_wp2_with fail
   refine wp_region_z 7 (fun W => W.cell? ⟨Mb, 4, none⟩ = some (.slice (some ⟨ge, 0, none⟩) m.e.length ce)) (by kernel_rfl) HK.out (fun hHeld => ?_)
   refine wpAnyZ_take (i := 0) (oi := { dst := some 10, op := Op.fieldAddr 27 (Operand.tmp 3) 4, type := 0, pos := _, after := _, guard := none }) (v := .pointer (some ⟨Mb, 4, none⟩)) 0 [] rfl (by kernel_rfl) (by kernel_rfl) (by kernel_rfl) (by kernel_rfl) (by kernel_rfl) (fun _ _ _ h => h) (Or.inl ⟨by rfl, ?_⟩) (by assumption) ?_
   ·intro wX hSw
    try dsimp only at hSw
    go_simp
    try exact IntWalk.i64_in _ (by omega)
   try simp only [Act.put, List.setIfInBounds_toArray, List.set_cons_zero, List.set_cons_succ]
   refine wpAnyZ_take (i := 1) (oi := { dst := some 11, op := Op.load 25 (Operand.tmp 10), type := 25, pos := _, after := _, guard := none }) (v := .slice (some ⟨ge, 0, none⟩) m.e.length ce) 1 [] rfl (by kernel_rfl) (by kernel_rfl) (by kernel_rfl) (by kernel_rfl) (by kernel_rfl) (fun _ _ _ h => h) (Or.inl ⟨by rfl, ?_⟩) (by assumption) ?_
   ·intro wX hSw
    try dsimp only at hSw
    go_simp
    try exact IntWalk.i64_in _ (by omega)
   try simp only [Act.put, List.setIfInBounds_toArray, List.set_cons_zero, List.set_cons_succ]
   refine wpAnyZ_take (i := 2) (oi := { dst := some 12, op := Op.move (Operand.tmp 0), type := 60, pos := _, after := _, guard := none }) (v := .pointer (some ⟨c, 0, none⟩)) 2 [] rfl (by kernel_rfl) (by kernel_rfl) (by kernel_rfl) (by kernel_rfl) (by kernel_rfl) (fun _ _ _ h => h) (Or.inl ⟨by rfl, ?_⟩) (by assumption) ?_
   ·intro wX hSw
    try dsimp only at hSw
    go_simp
    try exact IntWalk.i64_in _ (by omega)
   try simp only [Act.put, List.setIfInBounds_toArray, List.set_cons_zero, List.set_cons_succ]
   refine wpAnyZ_ready (rs := [3]) (by kernel_rfl) (by simp) ?_
   refine AllReadyZ.cons (o := { dst := some 13, op := Op.buildSlice 23 2 #[(0, Operand.const (Value.int IntKind.i64 0)), (1, Operand.const (Value.int IntKind.i64 1))], type := 23, pos := _, after := _, guard := none }) rfl (fun K hK => ?_) AllReadyZ.nil
   go_simp
   refine hK.out _ _ HK1.out (fun hHeld => ?_)
   clear hK K
   try simp only [Act.put, List.setIfInBounds_toArray, List.set_cons_zero, List.set_cons_succ]
   refine wpAnyZ_ready (rs := [4]) (by kernel_rfl) (by simp) ?_
   refine AllReadyZ.cons (o := { dst := some 14, op := Op.call { callee := Callee.value (Operand.func 51), args := #[Operand.tmp 12, Operand.tmp 13], argTypes := #[60, 23] }, type := 3, pos := _, after := _, guard := none }) rfl (fun K hK => ?_) AllReadyZ.nil
   go_simp
   refine (pick_any c w3.drew.heap.size 2 _ _ (by omega) (by omega) (by have := HS.out; omega) HA.out.2.1 HL.out).mono ?_
   rintro e w4 ⟨z1, rfl, z10, hC, hT⟩
   have HD4 : Hid ((MB w4 w.heap.size w.heap.size Mb m (.slice ai m.i.length ci) (.slice ah m.h.length ch) (.slice (some ⟨ge, 0, none⟩) m.e.length ce) us) ∧ Cur w4 c ∧ Turns (fun k => k = c) w w4) := ⟨HA.out.1.keptC hcw (Nat.le_refl _) (by omega) hT, hC, HA.out.2.2.trans hT⟩
   have HK2 : Hid (w4.cell? ⟨Mb, 4, none⟩ = some (.slice (some ⟨ge, 0, none⟩) m.e.length ce)) := HD4.out.1.b.cell rfl
   obtain ⟨gj, cj, hgj, _, hgc, hgf⟩ := owns_some HD4.out.1.e HE1.out
   obtain rfl : ge = gj := by simpa [Value.ownBlock] using congrArg Value.ownBlock hgj
   have hc0 := hgc 2 (by have := HE1.out; omega)
   have hf0 := hgf 2
   obtain ⟨u0, hu0⟩ : ∃ u, (cellsL m.e)[2]? = some u := ⟨_, List.getElem?_eq_getElem (by rw [cellsL_length]; have := HE1.out; omega)⟩
   rw [hu0] at hc0
   clear hC hT hgj hgc hgf hu0 HA HL HA0 HD3
   refine hK.out _ _ HK2.out (fun hHeld => ?_)
   clear hK K
   try simp only [Act.put, List.setIfInBounds_toArray, List.set_cons_zero, List.set_cons_succ]
   refine wpAnyZ_take (i := 5) (oi := { dst := some 15, op := Op.indexAddr 25 (Operand.tmp 11) (Operand.const (Value.int IntKind.i64 0)), type := 0, pos := _, after := _, guard := none }) (v := .pointer (some ⟨ge, 0, none⟩)) 6 [5] rfl (by kernel_rfl) (by kernel_rfl) (by kernel_rfl) (by kernel_rfl) (by kernel_rfl) (fun _ _ _ h => h) (Or.inl ⟨by rfl, ?_⟩) (by assumption) ?_
   ·intro wX hSw
    try dsimp only at hSw
    go_simp
    try exact IntWalk.i64_in _ (by omega)
   try simp only [Act.put, List.setIfInBounds_toArray, List.set_cons_zero, List.set_cons_succ]
   refine wpAnyZ_take (i := 6) (oi := { dst := some 16, op := Op.fieldAddr 53 (Operand.tmp 15) 2, type := 0, pos := _, after := _, guard := none }) (v := .pointer (some ⟨ge, 2, none⟩)) 6 [] rfl (by kernel_rfl) (by kernel_rfl) (by kernel_rfl) (by kernel_rfl) (by kernel_rfl) (fun _ _ _ h => h) (Or.inl ⟨by rfl, ?_⟩) (by assumption) ?_
   ·intro wX hSw
    try dsimp only at hSw
    go_simp
    try exact IntWalk.i64_in _ (by omega)
   try simp only [Act.put, List.setIfInBounds_toArray, List.set_cons_zero, List.set_cons_succ]
   refine wpAnyZ_ready (rs := [7]) (by kernel_rfl) (by simp) ?_
   refine AllReadyZ.last (o := { dst := none, op := Op.store 3 (Operand.tmp 16) (Operand.tmp 14), type := 0, pos := _, after := _, guard := none }) rfl (fun K hK => ?_)
   go_simp
   refine hK.out _ _ ?_
   clear hK K
   try simp only [Act.put, List.setIfInBounds_toArray, List.set_cons_zero, List.set_cons_succ]
   refine wpAnyZ_done (by kernel_rfl) ?_ _
   clear hc0 hf0 HK HK1 HK2 hHeld HS
   obtain ⟨W5, hW⟩ : ∃ V, w4.setCell ⟨ge, 2, none⟩ (.int .i64 z1) = V := ⟨_, rfl⟩
   have HD5 : Hid ((MB W5 w.heap.size w.heap.size Mb ⟨m.n, m.s, m.i, m.h, ⟨e0.t, e0.s, z1, e0.d, e0.k, e0.v, e0.g⟩ :: er, m.z⟩ (.slice ai m.i.length ci) (.slice ah m.h.length ch) (.slice (some ⟨ge, 0, none⟩) m.e.length ce) us) ∧ Cur W5 c ∧ Turns (fun k => k = c) w W5) := hW ▸ ⟨HD4.out.1.setE rfl (by rw [HER.out]; simp) (by rw [HER.out]; exact cellsL_set2 e0 er z1), HD4.out.2.1.put (by omega) _ _, HD4.out.2.2.setNew hgB _ _⟩
   rw [hW]
   clear hW HD4
   have HL : Hid (ListAt (W5.drew.alloc (.cells #[.int .i64 0, .int .i64 14, .int .i64 15] 3)) W5.drew.heap.size 3 (fun y => 0 ≤ y ∧ y ≤ 15)) := lstOf W5.drew 3 [0, 14, 15] _ (by decide)
   have HA0 : Hid ((MB W5.drew w.heap.size w.heap.size Mb ⟨m.n, m.s, m.i, m.h, ⟨e0.t, e0.s, z1, e0.d, e0.k, e0.v, e0.g⟩ :: er, m.z⟩ (.slice ai m.i.length ci) (.slice ah m.h.length ch) (.slice (some ⟨ge, 0, none⟩) m.e.length ce) us) ∧ Cur W5.drew c ∧ Turns (fun k => k = c) w W5.drew) := ⟨HD5.out.1.drew, HD5.out.2.1.drew, ⟨HD5.out.2.2.os, HD5.out.2.2.tape, HD5.out.2.2.output, HD5.out.2.2.size, HD5.out.2.2.block⟩⟩
   have HA : Hid ((MB (W5.drew.alloc (.cells #[.int .i64 0, .int .i64 14, .int .i64 15] 3)) w.heap.size w.heap.size Mb ⟨m.n, m.s, m.i, m.h, ⟨e0.t, e0.s, z1, e0.d, e0.k, e0.v, e0.g⟩ :: er, m.z⟩ (.slice ai m.i.length ci) (.slice ah m.h.length ch) (.slice (some ⟨ge, 0, none⟩) m.e.length ce) us) ∧ Cur (W5.drew.alloc (.cells #[.int .i64 0, .int .i64 14, .int .i64 15] 3)) c ∧ Turns (fun k => k = c) w (W5.drew.alloc (.cells #[.int .i64 0, .int .i64 14, .int .i64 15] 3))) := ⟨HA0.out.1.alloc _, HA0.out.2.1.alloc _, HA0.out.2.2.alloc _⟩
   have HS : Hid (w.heap.size ≤ W5.drew.heap.size) := HA0.out.2.2.size
   have HK : Hid (W5.drew.cell? ⟨Mb, 4, none⟩ = some (.slice (some ⟨ge, 0, none⟩) m.e.length ce)) := HA0.out.1.b.cell rfl
   have HK1 : Hid ((W5.drew.alloc (.cells #[.int .i64 0, .int .i64 14, .int .i64 15] 3)).cell? ⟨Mb, 4, none⟩ = some (.slice (some ⟨ge, 0, none⟩) m.e.length ce)) := HA.out.1.b.cell rfl
   go_wp2_with fail
   refine wp_region_z 7 (fun W => W.cell? ⟨Mb, 4, none⟩ = some (.slice (some ⟨ge, 0, none⟩) m.e.length ce)) (by kernel_rfl) HK.out (fun hHeld => ?_)
   refine wpAnyZ_take (i := 0) (oi := { dst := some 17, op := Op.fieldAddr 27 (Operand.tmp 3) 4, type := 0, pos := _, after := _, guard := none }) (v := .pointer (some ⟨Mb, 4, none⟩)) 0 [] rfl (by kernel_rfl) (by kernel_rfl) (by kernel_rfl) (by kernel_rfl) (by kernel_rfl) (fun _ _ _ h => h) (Or.inl ⟨by rfl, ?_⟩) (by assumption) ?_
   ·intro wX hSw
    try dsimp only at hSw
    go_simp
    try exact IntWalk.i64_in _ (by omega)
   try simp only [Act.put, List.setIfInBounds_toArray, List.set_cons_zero, List.set_cons_succ]
   refine wpAnyZ_take (i := 1) (oi := { dst := some 18, op := Op.load 25 (Operand.tmp 17), type := 25, pos := _, after := _, guard := none }) (v := .slice (some ⟨ge, 0, none⟩) m.e.length ce) 1 [] rfl (by kernel_rfl) (by kernel_rfl) (by kernel_rfl) (by kernel_rfl) (by kernel_rfl) (fun _ _ _ h => h) (Or.inl ⟨by rfl, ?_⟩) (by assumption) ?_
   ·intro wX hSw
    try dsimp only at hSw
    go_simp
    try exact IntWalk.i64_in _ (by omega)
   try simp only [Act.put, List.setIfInBounds_toArray, List.set_cons_zero, List.set_cons_succ]
   refine wpAnyZ_take (i := 2) (oi := { dst := some 19, op := Op.move (Operand.tmp 0), type := 60, pos := _, after := _, guard := none }) (v := .pointer (some ⟨c, 0, none⟩)) 2 [] rfl (by kernel_rfl) (by kernel_rfl) (by kernel_rfl) (by kernel_rfl) (by kernel_rfl) (fun _ _ _ h => h) (Or.inl ⟨by rfl, ?_⟩) (by assumption) ?_
   ·intro wX hSw
    try dsimp only at hSw
    go_simp
    try exact IntWalk.i64_in _ (by omega)
   try simp only [Act.put, List.setIfInBounds_toArray, List.set_cons_zero, List.set_cons_succ]
   refine wpAnyZ_ready (rs := [3]) (by kernel_rfl) (by simp) ?_
   refine AllReadyZ.cons (o := { dst := some 20, op := Op.buildSlice 23 3 #[(0, Operand.const (Value.int IntKind.i64 0)), (1, Operand.const (Value.int IntKind.i64 14)), (2, Operand.const (Value.int IntKind.i64 15))], type := 23, pos := _, after := _, guard := none }) rfl (fun K hK => ?_) AllReadyZ.nil
   go_simp
   refine hK.out _ _ HK1.out (fun hHeld => ?_)
   clear hK K
   try simp only [Act.put, List.setIfInBounds_toArray, List.set_cons_zero, List.set_cons_succ]
   refine wpAnyZ_ready (rs := [4]) (by kernel_rfl) (by simp) ?_
   refine AllReadyZ.cons (o := { dst := some 21, op := Op.call { callee := Callee.value (Operand.func 51), args := #[Operand.tmp 19, Operand.tmp 20], argTypes := #[60, 23] }, type := 3, pos := _, after := _, guard := none }) rfl (fun K hK => ?_) AllReadyZ.nil
   go_simp
   refine (pick_any c W5.drew.heap.size 3 _ _ (by omega) (by omega) (by have := HS.out; omega) HA.out.2.1 HL.out).mono ?_
   rintro e w6 ⟨z2, rfl, z20, hC, hT⟩
   have HD6 : Hid ((MB w6 w.heap.size w.heap.size Mb ⟨m.n, m.s, m.i, m.h, ⟨e0.t, e0.s, z1, e0.d, e0.k, e0.v, e0.g⟩ :: er, m.z⟩ (.slice ai m.i.length ci) (.slice ah m.h.length ch) (.slice (some ⟨ge, 0, none⟩) m.e.length ce) us) ∧ Cur w6 c ∧ Turns (fun k => k = c) w w6) := ⟨HA.out.1.keptC hcw (Nat.le_refl _) (by omega) hT, hC, HA.out.2.2.trans hT⟩
   have HK2 : Hid (w6.cell? ⟨Mb, 4, none⟩ = some (.slice (some ⟨ge, 0, none⟩) m.e.length ce)) := HD6.out.1.b.cell rfl
   obtain ⟨gj, cj, hgj, _, hgc, hgf⟩ := owns_some HD6.out.1.e (by simp)
   obtain rfl : ge = gj := by simpa [Value.ownBlock] using congrArg Value.ownBlock hgj
   have hc0 := hgc 0 (by have := HE1.out; simp)
   have hf0 := hgf 0
   obtain ⟨u0, hu0⟩ : ∃ u, (cellsL (Md.e ⟨m.n, m.s, m.i, m.h, ⟨e0.t, e0.s, z1, e0.d, e0.k, e0.v, e0.g⟩ :: er, m.z⟩))[0]? = some u := ⟨_, List.getElem?_eq_getElem (by rw [cellsL_length]; have := HE1.out; simp)⟩
   rw [hu0] at hc0
   clear hC hT hgj hgc hgf hu0 HA HL HA0 HD5
   refine hK.out _ _ HK2.out (fun hHeld => ?_)
   clear hK K
   try simp only [Act.put, List.setIfInBounds_toArray, List.set_cons_zero, List.set_cons_succ]
   refine wpAnyZ_take (i := 5) (oi := { dst := some 22, op := Op.indexAddr 25 (Operand.tmp 18) (Operand.const (Value.int IntKind.i64 0)), type := 0, pos := _, after := _, guard := none }) (v := .pointer (some ⟨ge, 0, none⟩)) 6 [5] rfl (by kernel_rfl) (by kernel_rfl) (by kernel_rfl) (by kernel_rfl) (by kernel_rfl) (fun _ _ _ h => h) (Or.inl ⟨by rfl, ?_⟩) (by assumption) ?_
   ·intro wX hSw
    try dsimp only at hSw
    go_simp
    try exact IntWalk.i64_in _ (by omega)
   try simp only [Act.put, List.setIfInBounds_toArray, List.set_cons_zero, List.set_cons_succ]
   refine wpAnyZ_take (i := 6) (oi := { dst := some 23, op := Op.fieldAddr 53 (Operand.tmp 22) 0, type := 0, pos := _, after := _, guard := none }) (v := .pointer (some ⟨ge, 0, none⟩)) 6 [] rfl (by kernel_rfl) (by kernel_rfl) (by kernel_rfl) (by kernel_rfl) (by kernel_rfl) (fun _ _ _ h => h) (Or.inl ⟨by rfl, ?_⟩) (by assumption) ?_
   ·intro wX hSw
    try dsimp only at hSw
    go_simp
    try exact IntWalk.i64_in _ (by omega)
   try simp only [Act.put, List.setIfInBounds_toArray, List.set_cons_zero, List.set_cons_succ]
   refine wpAnyZ_ready (rs := [7]) (by kernel_rfl) (by simp) ?_
   refine AllReadyZ.last (o := { dst := none, op := Op.store 3 (Operand.tmp 23) (Operand.tmp 21), type := 0, pos := _, after := _, guard := none }) rfl (fun K hK => ?_)
   go_simp
   refine hK.out _ _ ?_
   clear hK K
   try simp only [Act.put, List.setIfInBounds_toArray, List.set_cons_zero, List.set_cons_succ]
   refine wpAnyZ_done (by kernel_rfl) ?_ _
   clear hc0 hf0 HK HK1 HK2 hHeld HS
   obtain ⟨W7, hW⟩ : ∃ V, w6.setCell ⟨ge, 0, none⟩ (.int .i64 z2) = V := ⟨_, rfl⟩
   have HD7 : Hid ((MB W7 w.heap.size w.heap.size Mb ⟨m.n, m.s, m.i, m.h, ⟨z2, e0.s, z1, e0.d, e0.k, e0.v, e0.g⟩ :: er, m.z⟩ (.slice ai m.i.length ci) (.slice ah m.h.length ch) (.slice (some ⟨ge, 0, none⟩) m.e.length ce) us) ∧ Cur W7 c ∧ Turns (fun k => k = c) w W7) := hW ▸ ⟨HD6.out.1.setE rfl (by simp) (by exact cellsL_set0 _ er z2), HD6.out.2.1.put (by omega) _ _, HD6.out.2.2.setNew hgB _ _⟩
   rw [hW]
   clear hW HD6
   have b0 := HD7.out.1.b.cell (i := 0) rfl
   have b1 := HD7.out.1.b.cell (i := 1) rfl
   have b2 := HD7.out.1.b.cell (i := 2) rfl
   have b3 := HD7.out.1.b.cell (i := 3) rfl
   have b4 := HD7.out.1.b.cell (i := 4) rfl
   have b5 := HD7.out.1.b.cell (i := 5) rfl
   have q0 := HD7.out.1.r.cell (i := 0) rfl
   have q1 := HD7.out.1.r.cell (i := 1) rfl
   have q2 := HD7.out.1.r.cell (i := 2) rfl
   have q3 := HD7.out.1.r.cell (i := 3) rfl
   have q4 := HD7.out.1.r.cell (i := 4) rfl
   have q5 := HD7.out.1.r.cell (i := 5) rfl
   have qf := HD7.out.1.r.free
   go_wp2
   clear q0 q1 q2 q3 q4 q5 qf b0 b1 b2 b3 b4 b5
   obtain ⟨X5, hX5⟩ : ∃ X5, put6 W7 w.heap.size (.int .i64 m.n) (.int .i64 m.s) (.slice ai m.i.length ci) (.slice ah m.h.length ch) (.slice (some ⟨ge, 0, none⟩) m.e.length ce) (.int .i64 m.z) = X5 := ⟨_, rfl⟩
   have hP := HD7.out.1.r.put6 (.int .i64 m.n) (.int .i64 m.s) (.slice ai m.i.length ci) (.slice ah m.h.length ch) (.slice (some ⟨ge, 0, none⟩) m.e.length ce) (.int .i64 m.z)
   have ht := put6_turns W7 w.heap.size (.int .i64 m.n) (.int .i64 m.s) (.slice ai m.i.length ci) (.slice ah m.h.length ch) (.slice (some ⟨ge, 0, none⟩) m.e.length ce) (.int .i64 m.z)
   rw [hX5] at hP ht
   unfold put6 at hX5
   rw [hX5]
   have t0 := hP.cell (i := 0) rfl
   have t1 := hP.cell (i := 1) rfl
   have t2 := hP.cell (i := 2) rfl
   have t3 := hP.cell (i := 3) rfl
   have t4 := hP.cell (i := 4) rfl
   have t5 := hP.cell (i := 5) rfl
   refine bodyPost_ret (v := .agg #[.int .i64 m.n, .int .i64 m.s, .slice ai m.i.length ci, .slice ah m.h.length ch, .slice (some ⟨ge, 0, none⟩) m.e.length ce, .int .i64 m.z]) (by simp [results, Tryz.results24, go_sem, t0, t1, t2, t3, t4, t5]) rfl ⟨⟨m.n, m.s, m.i, m.h, ⟨z2, e0.s, z1, e0.d, e0.k, e0.v, e0.g⟩ :: er, m.z⟩, _, rfl, (HD7.out.1.mo ht).mdf, ⟨HTY.out.1, HTY.out.2.1, HTY.out.2.2.1, by have := HTY.out.2.2.2; rw [HER.out] at this; simpa using this⟩, HD7.out.2.1.turns ht (fun j hj => by omega), HD7.out.2.2.trans' ht (Nat.le_refl _)⟩
end Go.Proofs.YtbljfphdghfkfaaGreatDoor
