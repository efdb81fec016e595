/- A drawn op may be. -/
import Derived.Test.YtbljfphdghfkfaaGreatDoorModelsCardG17
import Derived.Test.YtbljfphdghfkfaaGreatDoorModelsCardG25
namespace Go.Proofs.YtbljfphdghfkfaaGreatDoor
open Go.RowKit
theorem lstOf (w : World) (T : TypeId) (l : List Int) (P : Int → Prop) (h : ∀ y ∈ l, P y) : ListAt (w.alloc (.cells (l.map (Value.int .i64)).toArray T)) w.heap.size l.length P := by
 have hb := Bk.new w T (l.map (Value.int .i64)).toArray
 refine ⟨hb.lt, fun j hj => ⟨l[j], h _ (List.getElem_mem hj), hb.cell ?_⟩⟩
 simp [hj]
set_option maxRecDepth 100000 in
set_option maxHeartbeats 16000000 in
theorem op_any (c : Nat) (n kk : Int) (w : World) (hn : 1 ≤ n) (hk : 1 ≤ kk) (H : Cur w c) :
  Calls Tryz.prog 81 #[.pointer (some ⟨c, 0, none⟩), .int .i64 n, .int .i64 kk] w fun e w' => ∃ o : O, e = .returned o.val ∧ o.ok n kk = true ∧ Cur w' c ∧ Turns (fun k => k = c) w w' := by
 have hcw : c < w.heap.size := H.lt
 obtain ⟨W0, hW0⟩ : ∃ W0, w.alloc (.cells #[.int .i64 0, .int .i64 0, .int .i64 0, .int .i64 0] 39) = W0 := ⟨_, rfl⟩
 have HR0 : Hid (Bk W0 w.heap.size 39 #[.int .i64 0, .int .i64 0, .int .i64 0, .int .i64 0]) := hW0 ▸ Bk.new w _ _
 have HC0 : Hid (Cur W0 c) := hW0 ▸ H.alloc _
 have HT0 : Hid (Turns (fun k => k = c) w W0) := hW0 ▸ (Turns.refl _ w).alloc _
 have HW0 : Hid (w.alloc (.cells #[.int .i64 0, .int .i64 0, .int .i64 0, .int .i64 0] 39) = W0) := hW0
 clear hW0 H
 go_enter Tryz.func81, Tryz.ntmps81
 go_wp2_with fail
 rw [HW0.out]
 clear HW0
 refine (below_any c _ _ HC0.out).mono ?_
 rintro e w1 ⟨x, rfl, hx0, hx1, hC, hT⟩
 have hx2 := hx1 (by omega)
 have HR1 : Hid (Bk w1 w.heap.size 39 #[.int .i64 0, .int .i64 0, .int .i64 0, .int .i64 0]) := HR0.out.turns hT (by omega)
 have HC1 : Hid (Cur w1 c) := hC
 have HT1 : Hid (Turns (fun k => k = c) w w1) := HT0.out.trans hT
 have hx3 : x = 0 ∨ x = 1 ∨ x = 2 ∨ x = 3 ∨ x = 4 ∨ x = 5 ∨ x = 6 ∨ x = 7 ∨ x = 8 ∨ x = 9 ∨ x = 10 := by omega
 clear hx0 hx1 hx2 hC hT HR0 HC0 HT0
 rcases hx3 with rfl | rfl | rfl | rfl | rfl | rfl | rfl | rfl | rfl | rfl | rfl
 ·go_wp2_with fail
  refine (below_any c _ _ HC1.out).mono ?_
  rintro e w2 ⟨a, rfl, a0, a1, hC, hT⟩
  have a2 := a1 (by omega)
  have HR2 : Hid (Bk w2 w.heap.size 39 #[.int .i64 0, .int .i64 0, .int .i64 0, .int .i64 0]) := HR1.out.turns hT (by omega)
  have HC2 : Hid (Cur w2 c) := hC
  have HT2 : Hid (Turns (fun k => k = c) w w2) := HT1.out.trans hT
  clear hC hT HR1 HC1 HT1
  clear a1
  have HS3 : Hid (w.heap.size ≤ w2.heap.size) := HT2.out.size
  have HRa : Hid (Bk (w2.alloc (.cells #[.int .i64 1, .int .i64 2, .int .i64 7, .int .i64 500] 3)) w.heap.size 39 #[.int .i64 0, .int .i64 0, .int .i64 0, .int .i64 0]) := HR2.out.alloc _
  have HCa : Hid (Cur (w2.alloc (.cells #[.int .i64 1, .int .i64 2, .int .i64 7, .int .i64 500] 3)) c) := HC2.out.alloc _
  have HTa : Hid (Turns (fun k => k = c) w (w2.alloc (.cells #[.int .i64 1, .int .i64 2, .int .i64 7, .int .i64 500] 3))) := HT2.out.alloc _
  have HLa : Hid (ListAt (w2.alloc (.cells #[.int .i64 1, .int .i64 2, .int .i64 7, .int .i64 500] 3)) w2.heap.size 4 (fun y => 1 ≤ y ∧ y ≤ 500)) := lstOf w2 3 [1, 2, 7, 500] _ (by decide)
  go_wp2_with fail
  refine (pick_any c w2.heap.size 4 _ _ (by omega) (by omega) (by have := HS3.out; omega) HCa.out HLa.out).mono ?_
  rintro e w3 ⟨b, rfl, b0, hC, hT⟩
  have HR3 : Hid (Bk w3 w.heap.size 39 #[.int .i64 0, .int .i64 0, .int .i64 0, .int .i64 0]) := HRa.out.turns hT (by omega)
  have HC3 : Hid (Cur w3 c) := hC
  have HT3 : Hid (Turns (fun k => k = c) w w3) := HTa.out.trans hT
  clear hC hT HRa HCa HTa HLa HR2 HC2 HT2 HS3
  have q0 := HR3.out.cell (i := 0) rfl
  have q1 := HR3.out.cell (i := 1) rfl
  have q2 := HR3.out.cell (i := 2) rfl
  have q3 := HR3.out.cell (i := 3) rfl
  have qf := HR3.out.free
  go_wp2
  clear q0 q1 q2 q3 qf
  obtain ⟨X5, hX5⟩ : ∃ X5, put4h w3 w.heap.size (.int .i64 0) (.int .i64 a) (.int .i64 b) (.int .i64 0) = X5 := ⟨_, rfl⟩
  have hP := HR3.out.put4h (.int .i64 0) (.int .i64 a) (.int .i64 b) (.int .i64 0)
  have ht := put4h_turns w3 w.heap.size (.int .i64 0) (.int .i64 a) (.int .i64 b) (.int .i64 0)
  rw [hX5] at hP ht
  unfold put4h at hX5
  rw [hX5]
  have t0 := hP.cell (i := 0) rfl
  have t1 := hP.cell (i := 1) rfl
  have t2 := hP.cell (i := 2) rfl
  have t3 := hP.cell (i := 3) rfl
  refine bodyPost_ret (v := .agg #[.int .i64 0, .int .i64 a, .int .i64 b, .int .i64 0]) (by simp [results, Tryz.results81, go_sem, t0, t1, t2, t3]) rfl ⟨⟨0, a, b, 0⟩, rfl, ?_, HC3.out.turns ht (fun j hj => by omega), HT3.out.trans' ht (Nat.le_refl _)⟩
  simp [O.ok, okO]
  omega
 ·go_wp2_with fail
  refine (below_any c _ _ HC1.out).mono ?_
  rintro e w2 ⟨a, rfl, a0, a1, hC, hT⟩
  have a2 := a1 (by omega)
  have HR2 : Hid (Bk w2 w.heap.size 39 #[.int .i64 0, .int .i64 0, .int .i64 0, .int .i64 0]) := HR1.out.turns hT (by omega)
  have HC2 : Hid (Cur w2 c) := hC
  have HT2 : Hid (Turns (fun k => k = c) w w2) := HT1.out.trans hT
  clear hC hT HR1 HC1 HT1
  clear a1
  have HS3 : Hid (w.heap.size ≤ w2.heap.size) := HT2.out.size
  have HRa : Hid (Bk (w2.alloc (.cells #[.int .i64 1, .int .i64 2, .int .i64 7, .int .i64 500] 3)) w.heap.size 39 #[.int .i64 0, .int .i64 0, .int .i64 0, .int .i64 0]) := HR2.out.alloc _
  have HCa : Hid (Cur (w2.alloc (.cells #[.int .i64 1, .int .i64 2, .int .i64 7, .int .i64 500] 3)) c) := HC2.out.alloc _
  have HTa : Hid (Turns (fun k => k = c) w (w2.alloc (.cells #[.int .i64 1, .int .i64 2, .int .i64 7, .int .i64 500] 3))) := HT2.out.alloc _
  have HLa : Hid (ListAt (w2.alloc (.cells #[.int .i64 1, .int .i64 2, .int .i64 7, .int .i64 500] 3)) w2.heap.size 4 (fun y => 1 ≤ y ∧ y ≤ 500)) := lstOf w2 3 [1, 2, 7, 500] _ (by decide)
  go_wp2_with fail
  refine (pick_any c w2.heap.size 4 _ _ (by omega) (by omega) (by have := HS3.out; omega) HCa.out HLa.out).mono ?_
  rintro e w3 ⟨b, rfl, b0, hC, hT⟩
  have HR3 : Hid (Bk w3 w.heap.size 39 #[.int .i64 0, .int .i64 0, .int .i64 0, .int .i64 0]) := HRa.out.turns hT (by omega)
  have HC3 : Hid (Cur w3 c) := hC
  have HT3 : Hid (Turns (fun k => k = c) w w3) := HTa.out.trans hT
  clear hC hT HRa HCa HTa HLa HR2 HC2 HT2 HS3
  have q0 := HR3.out.cell (i := 0) rfl
  have q1 := HR3.out.cell (i := 1) rfl
  have q2 := HR3.out.cell (i := 2) rfl
  have q3 := HR3.out.cell (i := 3) rfl
  have qf := HR3.out.free
  go_wp2
  clear q0 q1 q2 q3 qf
  obtain ⟨X5, hX5⟩ : ∃ X5, put4h w3 w.heap.size (.int .i64 0) (.int .i64 a) (.int .i64 b) (.int .i64 0) = X5 := ⟨_, rfl⟩
  have hP := HR3.out.put4h (.int .i64 0) (.int .i64 a) (.int .i64 b) (.int .i64 0)
  have ht := put4h_turns w3 w.heap.size (.int .i64 0) (.int .i64 a) (.int .i64 b) (.int .i64 0)
  rw [hX5] at hP ht
  unfold put4h at hX5
  rw [hX5]
  have t0 := hP.cell (i := 0) rfl
  have t1 := hP.cell (i := 1) rfl
  have t2 := hP.cell (i := 2) rfl
  have t3 := hP.cell (i := 3) rfl
  refine bodyPost_ret (v := .agg #[.int .i64 0, .int .i64 a, .int .i64 b, .int .i64 0]) (by simp [results, Tryz.results81, go_sem, t0, t1, t2, t3]) rfl ⟨⟨0, a, b, 0⟩, rfl, ?_, HC3.out.turns ht (fun j hj => by omega), HT3.out.trans' ht (Nat.le_refl _)⟩
  simp [O.ok, okO]
  omega
 ·go_wp2_with fail
  refine (below_any c _ _ HC1.out).mono ?_
  rintro e w2 ⟨a, rfl, a0, a1, hC, hT⟩
  have a2 := a1 (by omega)
  have HR2 : Hid (Bk w2 w.heap.size 39 #[.int .i64 0, .int .i64 0, .int .i64 0, .int .i64 0]) := HR1.out.turns hT (by omega)
  have HC2 : Hid (Cur w2 c) := hC
  have HT2 : Hid (Turns (fun k => k = c) w w2) := HT1.out.trans hT
  clear hC hT HR1 HC1 HT1
  clear a1
  have q0 := HR2.out.cell (i := 0) rfl
  have q1 := HR2.out.cell (i := 1) rfl
  have q2 := HR2.out.cell (i := 2) rfl
  have q3 := HR2.out.cell (i := 3) rfl
  have qf := HR2.out.free
  go_wp2
  clear q0 q1 q2 q3 qf
  obtain ⟨X5, hX5⟩ : ∃ X5, put4h w2 w.heap.size (.int .i64 1) (.int .i64 a) (.int .i64 0) (.int .i64 0) = X5 := ⟨_, rfl⟩
  have hP := HR2.out.put4h (.int .i64 1) (.int .i64 a) (.int .i64 0) (.int .i64 0)
  have ht := put4h_turns w2 w.heap.size (.int .i64 1) (.int .i64 a) (.int .i64 0) (.int .i64 0)
  rw [hX5] at hP ht
  unfold put4h at hX5
  rw [hX5]
  have t0 := hP.cell (i := 0) rfl
  have t1 := hP.cell (i := 1) rfl
  have t2 := hP.cell (i := 2) rfl
  have t3 := hP.cell (i := 3) rfl
  refine bodyPost_ret (v := .agg #[.int .i64 1, .int .i64 a, .int .i64 0, .int .i64 0]) (by simp [results, Tryz.results81, go_sem, t0, t1, t2, t3]) rfl ⟨⟨1, a, 0, 0⟩, rfl, ?_, HC2.out.turns ht (fun j hj => by omega), HT2.out.trans' ht (Nat.le_refl _)⟩
  simp [O.ok, okO]
  omega
 ·go_wp2_with fail
  refine (below_any c _ _ HC1.out).mono ?_
  rintro e w2 ⟨a, rfl, a0, a1, hC, hT⟩
  have a2 := a1 (by omega)
  have HR2 : Hid (Bk w2 w.heap.size 39 #[.int .i64 0, .int .i64 0, .int .i64 0, .int .i64 0]) := HR1.out.turns hT (by omega)
  have HC2 : Hid (Cur w2 c) := hC
  have HT2 : Hid (Turns (fun k => k = c) w w2) := HT1.out.trans hT
  clear hC hT HR1 HC1 HT1
  clear a1
  have HS3 : Hid (w.heap.size ≤ w2.heap.size) := HT2.out.size
  have HRa : Hid (Bk (w2.alloc (.cells #[.int .i64 1, .int .i64 2, .int .i64 5, .int .i64 9] 3)) w.heap.size 39 #[.int .i64 0, .int .i64 0, .int .i64 0, .int .i64 0]) := HR2.out.alloc _
  have HCa : Hid (Cur (w2.alloc (.cells #[.int .i64 1, .int .i64 2, .int .i64 5, .int .i64 9] 3)) c) := HC2.out.alloc _
  have HTa : Hid (Turns (fun k => k = c) w (w2.alloc (.cells #[.int .i64 1, .int .i64 2, .int .i64 5, .int .i64 9] 3))) := HT2.out.alloc _
  have HLa : Hid (ListAt (w2.alloc (.cells #[.int .i64 1, .int .i64 2, .int .i64 5, .int .i64 9] 3)) w2.heap.size 4 (fun y => 1 ≤ y ∧ y ≤ 9)) := lstOf w2 3 [1, 2, 5, 9] _ (by decide)
  go_wp2_with fail
  refine (pick_any c w2.heap.size 4 _ _ (by omega) (by omega) (by have := HS3.out; omega) HCa.out HLa.out).mono ?_
  rintro e w3 ⟨b, rfl, b0, hC, hT⟩
  have HR3 : Hid (Bk w3 w.heap.size 39 #[.int .i64 0, .int .i64 0, .int .i64 0, .int .i64 0]) := HRa.out.turns hT (by omega)
  have HC3 : Hid (Cur w3 c) := hC
  have HT3 : Hid (Turns (fun k => k = c) w w3) := HTa.out.trans hT
  clear hC hT HRa HCa HTa HLa HR2 HC2 HT2 HS3
  go_wp2_with fail
  refine (below_any c _ _ HC3.out).mono ?_
  rintro e w4 ⟨k, rfl, k0, k1, hC, hT⟩
  have k2 := k1 (by omega)
  have HR4 : Hid (Bk w4 w.heap.size 39 #[.int .i64 0, .int .i64 0, .int .i64 0, .int .i64 0]) := HR3.out.turns hT (by omega)
  have HC4 : Hid (Cur w4 c) := hC
  have HT4 : Hid (Turns (fun k => k = c) w w4) := HT3.out.trans hT
  clear hC hT HR3 HC3 HT3
  clear k1
  have q0 := HR4.out.cell (i := 0) rfl
  have q1 := HR4.out.cell (i := 1) rfl
  have q2 := HR4.out.cell (i := 2) rfl
  have q3 := HR4.out.cell (i := 3) rfl
  have qf := HR4.out.free
  go_wp2
  clear q0 q1 q2 q3 qf
  obtain ⟨X5, hX5⟩ : ∃ X5, put4h w4 w.heap.size (.int .i64 2) (.int .i64 a) (.int .i64 b) (.int .i64 k) = X5 := ⟨_, rfl⟩
  have hP := HR4.out.put4h (.int .i64 2) (.int .i64 a) (.int .i64 b) (.int .i64 k)
  have ht := put4h_turns w4 w.heap.size (.int .i64 2) (.int .i64 a) (.int .i64 b) (.int .i64 k)
  rw [hX5] at hP ht
  unfold put4h at hX5
  rw [hX5]
  have t0 := hP.cell (i := 0) rfl
  have t1 := hP.cell (i := 1) rfl
  have t2 := hP.cell (i := 2) rfl
  have t3 := hP.cell (i := 3) rfl
  refine bodyPost_ret (v := .agg #[.int .i64 2, .int .i64 a, .int .i64 b, .int .i64 k]) (by simp [results, Tryz.results81, go_sem, t0, t1, t2, t3]) rfl ⟨⟨2, a, b, k⟩, rfl, ?_, HC4.out.turns ht (fun j hj => by omega), HT4.out.trans' ht (Nat.le_refl _)⟩
  simp [O.ok, okO]
  omega
 ·go_wp2_with fail
  refine (below_any c _ _ HC1.out).mono ?_
  rintro e w2 ⟨a, rfl, a0, a1, hC, hT⟩
  have a2 := a1 (by omega)
  have HR2 : Hid (Bk w2 w.heap.size 39 #[.int .i64 0, .int .i64 0, .int .i64 0, .int .i64 0]) := HR1.out.turns hT (by omega)
  have HC2 : Hid (Cur w2 c) := hC
  have HT2 : Hid (Turns (fun k => k = c) w w2) := HT1.out.trans hT
  clear hC hT HR1 HC1 HT1
  clear a1
  have HS3 : Hid (w.heap.size ≤ w2.heap.size) := HT2.out.size
  have HRa : Hid (Bk (w2.alloc (.cells #[.int .i64 1, .int .i64 2, .int .i64 5, .int .i64 9] 3)) w.heap.size 39 #[.int .i64 0, .int .i64 0, .int .i64 0, .int .i64 0]) := HR2.out.alloc _
  have HCa : Hid (Cur (w2.alloc (.cells #[.int .i64 1, .int .i64 2, .int .i64 5, .int .i64 9] 3)) c) := HC2.out.alloc _
  have HTa : Hid (Turns (fun k => k = c) w (w2.alloc (.cells #[.int .i64 1, .int .i64 2, .int .i64 5, .int .i64 9] 3))) := HT2.out.alloc _
  have HLa : Hid (ListAt (w2.alloc (.cells #[.int .i64 1, .int .i64 2, .int .i64 5, .int .i64 9] 3)) w2.heap.size 4 (fun y => 1 ≤ y ∧ y ≤ 9)) := lstOf w2 3 [1, 2, 5, 9] _ (by decide)
  go_wp2_with fail
  refine (pick_any c w2.heap.size 4 _ _ (by omega) (by omega) (by have := HS3.out; omega) HCa.out HLa.out).mono ?_
  rintro e w3 ⟨b, rfl, b0, hC, hT⟩
  have HR3 : Hid (Bk w3 w.heap.size 39 #[.int .i64 0, .int .i64 0, .int .i64 0, .int .i64 0]) := HRa.out.turns hT (by omega)
  have HC3 : Hid (Cur w3 c) := hC
  have HT3 : Hid (Turns (fun k => k = c) w w3) := HTa.out.trans hT
  clear hC hT HRa HCa HTa HLa HR2 HC2 HT2 HS3
  go_wp2_with fail
  refine (below_any c _ _ HC3.out).mono ?_
  rintro e w4 ⟨k, rfl, k0, k1, hC, hT⟩
  have k2 := k1 (by omega)
  have HR4 : Hid (Bk w4 w.heap.size 39 #[.int .i64 0, .int .i64 0, .int .i64 0, .int .i64 0]) := HR3.out.turns hT (by omega)
  have HC4 : Hid (Cur w4 c) := hC
  have HT4 : Hid (Turns (fun k => k = c) w w4) := HT3.out.trans hT
  clear hC hT HR3 HC3 HT3
  clear k1
  have q0 := HR4.out.cell (i := 0) rfl
  have q1 := HR4.out.cell (i := 1) rfl
  have q2 := HR4.out.cell (i := 2) rfl
  have q3 := HR4.out.cell (i := 3) rfl
  have qf := HR4.out.free
  go_wp2
  clear q0 q1 q2 q3 qf
  obtain ⟨X5, hX5⟩ : ∃ X5, put4h w4 w.heap.size (.int .i64 2) (.int .i64 a) (.int .i64 b) (.int .i64 k) = X5 := ⟨_, rfl⟩
  have hP := HR4.out.put4h (.int .i64 2) (.int .i64 a) (.int .i64 b) (.int .i64 k)
  have ht := put4h_turns w4 w.heap.size (.int .i64 2) (.int .i64 a) (.int .i64 b) (.int .i64 k)
  rw [hX5] at hP ht
  unfold put4h at hX5
  rw [hX5]
  have t0 := hP.cell (i := 0) rfl
  have t1 := hP.cell (i := 1) rfl
  have t2 := hP.cell (i := 2) rfl
  have t3 := hP.cell (i := 3) rfl
  refine bodyPost_ret (v := .agg #[.int .i64 2, .int .i64 a, .int .i64 b, .int .i64 k]) (by simp [results, Tryz.results81, go_sem, t0, t1, t2, t3]) rfl ⟨⟨2, a, b, k⟩, rfl, ?_, HC4.out.turns ht (fun j hj => by omega), HT4.out.trans' ht (Nat.le_refl _)⟩
  simp [O.ok, okO]
  omega
 ·go_wp2_with fail
  refine (below_any c _ _ HC1.out).mono ?_
  rintro e w2 ⟨a, rfl, a0, a1, hC, hT⟩
  have a2 := a1 (by omega)
  have HR2 : Hid (Bk w2 w.heap.size 39 #[.int .i64 0, .int .i64 0, .int .i64 0, .int .i64 0]) := HR1.out.turns hT (by omega)
  have HC2 : Hid (Cur w2 c) := hC
  have HT2 : Hid (Turns (fun k => k = c) w w2) := HT1.out.trans hT
  clear hC hT HR1 HC1 HT1
  clear a1
  have HS3 : Hid (w.heap.size ≤ w2.heap.size) := HT2.out.size
  have HRa : Hid (Bk (w2.alloc (.cells #[.int .i64 1, .int .i64 2, .int .i64 5, .int .i64 9] 3)) w.heap.size 39 #[.int .i64 0, .int .i64 0, .int .i64 0, .int .i64 0]) := HR2.out.alloc _
  have HCa : Hid (Cur (w2.alloc (.cells #[.int .i64 1, .int .i64 2, .int .i64 5, .int .i64 9] 3)) c) := HC2.out.alloc _
  have HTa : Hid (Turns (fun k => k = c) w (w2.alloc (.cells #[.int .i64 1, .int .i64 2, .int .i64 5, .int .i64 9] 3))) := HT2.out.alloc _
  have HLa : Hid (ListAt (w2.alloc (.cells #[.int .i64 1, .int .i64 2, .int .i64 5, .int .i64 9] 3)) w2.heap.size 4 (fun y => 1 ≤ y ∧ y ≤ 9)) := lstOf w2 3 [1, 2, 5, 9] _ (by decide)
  go_wp2_with fail
  refine (pick_any c w2.heap.size 4 _ _ (by omega) (by omega) (by have := HS3.out; omega) HCa.out HLa.out).mono ?_
  rintro e w3 ⟨b, rfl, b0, hC, hT⟩
  have HR3 : Hid (Bk w3 w.heap.size 39 #[.int .i64 0, .int .i64 0, .int .i64 0, .int .i64 0]) := HRa.out.turns hT (by omega)
  have HC3 : Hid (Cur w3 c) := hC
  have HT3 : Hid (Turns (fun k => k = c) w w3) := HTa.out.trans hT
  clear hC hT HRa HCa HTa HLa HR2 HC2 HT2 HS3
  go_wp2_with fail
  refine (below_any c _ _ HC3.out).mono ?_
  rintro e w4 ⟨k, rfl, k0, k1, hC, hT⟩
  have k2 := k1 (by omega)
  have HR4 : Hid (Bk w4 w.heap.size 39 #[.int .i64 0, .int .i64 0, .int .i64 0, .int .i64 0]) := HR3.out.turns hT (by omega)
  have HC4 : Hid (Cur w4 c) := hC
  have HT4 : Hid (Turns (fun k => k = c) w w4) := HT3.out.trans hT
  clear hC hT HR3 HC3 HT3
  clear k1
  have q0 := HR4.out.cell (i := 0) rfl
  have q1 := HR4.out.cell (i := 1) rfl
  have q2 := HR4.out.cell (i := 2) rfl
  have q3 := HR4.out.cell (i := 3) rfl
  have qf := HR4.out.free
  go_wp2
  clear q0 q1 q2 q3 qf
  obtain ⟨X5, hX5⟩ : ∃ X5, put4h w4 w.heap.size (.int .i64 2) (.int .i64 a) (.int .i64 b) (.int .i64 k) = X5 := ⟨_, rfl⟩
  have hP := HR4.out.put4h (.int .i64 2) (.int .i64 a) (.int .i64 b) (.int .i64 k)
  have ht := put4h_turns w4 w.heap.size (.int .i64 2) (.int .i64 a) (.int .i64 b) (.int .i64 k)
  rw [hX5] at hP ht
  unfold put4h at hX5
  rw [hX5]
  have t0 := hP.cell (i := 0) rfl
  have t1 := hP.cell (i := 1) rfl
  have t2 := hP.cell (i := 2) rfl
  have t3 := hP.cell (i := 3) rfl
  refine bodyPost_ret (v := .agg #[.int .i64 2, .int .i64 a, .int .i64 b, .int .i64 k]) (by simp [results, Tryz.results81, go_sem, t0, t1, t2, t3]) rfl ⟨⟨2, a, b, k⟩, rfl, ?_, HC4.out.turns ht (fun j hj => by omega), HT4.out.trans' ht (Nat.le_refl _)⟩
  simp [O.ok, okO]
  omega
 ·go_wp2_with fail
  refine (below_any c _ _ HC1.out).mono ?_
  rintro e w2 ⟨a, rfl, a0, a1, hC, hT⟩
  have a2 := a1 (by omega)
  have HR2 : Hid (Bk w2 w.heap.size 39 #[.int .i64 0, .int .i64 0, .int .i64 0, .int .i64 0]) := HR1.out.turns hT (by omega)
  have HC2 : Hid (Cur w2 c) := hC
  have HT2 : Hid (Turns (fun k => k = c) w w2) := HT1.out.trans hT
  clear hC hT HR1 HC1 HT1
  clear a1
  have HS3 : Hid (w.heap.size ≤ w2.heap.size) := HT2.out.size
  have HRa : Hid (Bk (w2.alloc (.cells #[.int .i64 1, .int .i64 3, .int .i64 8, .int .i64 100] 3)) w.heap.size 39 #[.int .i64 0, .int .i64 0, .int .i64 0, .int .i64 0]) := HR2.out.alloc _
  have HCa : Hid (Cur (w2.alloc (.cells #[.int .i64 1, .int .i64 3, .int .i64 8, .int .i64 100] 3)) c) := HC2.out.alloc _
  have HTa : Hid (Turns (fun k => k = c) w (w2.alloc (.cells #[.int .i64 1, .int .i64 3, .int .i64 8, .int .i64 100] 3))) := HT2.out.alloc _
  have HLa : Hid (ListAt (w2.alloc (.cells #[.int .i64 1, .int .i64 3, .int .i64 8, .int .i64 100] 3)) w2.heap.size 4 (fun y => 1 ≤ y ∧ y ≤ 100)) := lstOf w2 3 [1, 3, 8, 100] _ (by decide)
  go_wp2_with fail
  refine (pick_any c w2.heap.size 4 _ _ (by omega) (by omega) (by have := HS3.out; omega) HCa.out HLa.out).mono ?_
  rintro e w3 ⟨b, rfl, b0, hC, hT⟩
  have HR3 : Hid (Bk w3 w.heap.size 39 #[.int .i64 0, .int .i64 0, .int .i64 0, .int .i64 0]) := HRa.out.turns hT (by omega)
  have HC3 : Hid (Cur w3 c) := hC
  have HT3 : Hid (Turns (fun k => k = c) w w3) := HTa.out.trans hT
  clear hC hT HRa HCa HTa HLa HR2 HC2 HT2 HS3
  go_wp2_with fail
  refine (below_any c _ _ HC3.out).mono ?_
  rintro e w4 ⟨k, rfl, k0, k1, hC, hT⟩
  have k2 := k1 (by omega)
  have HR4 : Hid (Bk w4 w.heap.size 39 #[.int .i64 0, .int .i64 0, .int .i64 0, .int .i64 0]) := HR3.out.turns hT (by omega)
  have HC4 : Hid (Cur w4 c) := hC
  have HT4 : Hid (Turns (fun k => k = c) w w4) := HT3.out.trans hT
  clear hC hT HR3 HC3 HT3
  clear k1
  have q0 := HR4.out.cell (i := 0) rfl
  have q1 := HR4.out.cell (i := 1) rfl
  have q2 := HR4.out.cell (i := 2) rfl
  have q3 := HR4.out.cell (i := 3) rfl
  have qf := HR4.out.free
  go_wp2
  clear q0 q1 q2 q3 qf
  obtain ⟨X5, hX5⟩ : ∃ X5, put4h w4 w.heap.size (.int .i64 3) (.int .i64 a) (.int .i64 b) (.int .i64 (1 + k)) = X5 := ⟨_, rfl⟩
  have hP := HR4.out.put4h (.int .i64 3) (.int .i64 a) (.int .i64 b) (.int .i64 (1 + k))
  have ht := put4h_turns w4 w.heap.size (.int .i64 3) (.int .i64 a) (.int .i64 b) (.int .i64 (1 + k))
  rw [hX5] at hP ht
  unfold put4h at hX5
  rw [hX5]
  have t0 := hP.cell (i := 0) rfl
  have t1 := hP.cell (i := 1) rfl
  have t2 := hP.cell (i := 2) rfl
  have t3 := hP.cell (i := 3) rfl
  refine bodyPost_ret (v := .agg #[.int .i64 3, .int .i64 a, .int .i64 b, .int .i64 (1 + k)]) (by simp [results, Tryz.results81, go_sem, t0, t1, t2, t3]) rfl ⟨⟨3, a, b, (1 + k)⟩, rfl, ?_, HC4.out.turns ht (fun j hj => by omega), HT4.out.trans' ht (Nat.le_refl _)⟩
  simp [O.ok, okO]
  omega
 ·go_wp2_with fail
  refine (below_any c _ _ HC1.out).mono ?_
  rintro e w2 ⟨a, rfl, a0, a1, hC, hT⟩
  have a2 := a1 (by omega)
  have HR2 : Hid (Bk w2 w.heap.size 39 #[.int .i64 0, .int .i64 0, .int .i64 0, .int .i64 0]) := HR1.out.turns hT (by omega)
  have HC2 : Hid (Cur w2 c) := hC
  have HT2 : Hid (Turns (fun k => k = c) w w2) := HT1.out.trans hT
  clear hC hT HR1 HC1 HT1
  clear a1
  go_wp2_with fail
  refine (below_any c _ _ HC2.out).mono ?_
  rintro e w3 ⟨b, rfl, b0, b1, hC, hT⟩
  have b2 := b1 (by omega)
  have HR3 : Hid (Bk w3 w.heap.size 39 #[.int .i64 0, .int .i64 0, .int .i64 0, .int .i64 0]) := HR2.out.turns hT (by omega)
  have HC3 : Hid (Cur w3 c) := hC
  have HT3 : Hid (Turns (fun k => k = c) w w3) := HT2.out.trans hT
  clear hC hT HR2 HC2 HT2
  clear b1
  have q0 := HR3.out.cell (i := 0) rfl
  have q1 := HR3.out.cell (i := 1) rfl
  have q2 := HR3.out.cell (i := 2) rfl
  have q3 := HR3.out.cell (i := 3) rfl
  have qf := HR3.out.free
  go_wp2
  clear q0 q1 q2 q3 qf
  obtain ⟨X5, hX5⟩ : ∃ X5, put4h w3 w.heap.size (.int .i64 4) (.int .i64 a) (.int .i64 b) (.int .i64 0) = X5 := ⟨_, rfl⟩
  have hP := HR3.out.put4h (.int .i64 4) (.int .i64 a) (.int .i64 b) (.int .i64 0)
  have ht := put4h_turns w3 w.heap.size (.int .i64 4) (.int .i64 a) (.int .i64 b) (.int .i64 0)
  rw [hX5] at hP ht
  unfold put4h at hX5
  rw [hX5]
  have t0 := hP.cell (i := 0) rfl
  have t1 := hP.cell (i := 1) rfl
  have t2 := hP.cell (i := 2) rfl
  have t3 := hP.cell (i := 3) rfl
  refine bodyPost_ret (v := .agg #[.int .i64 4, .int .i64 a, .int .i64 b, .int .i64 0]) (by simp [results, Tryz.results81, go_sem, t0, t1, t2, t3]) rfl ⟨⟨4, a, b, 0⟩, rfl, ?_, HC3.out.turns ht (fun j hj => by omega), HT3.out.trans' ht (Nat.le_refl _)⟩
  simp [O.ok, okO]
  omega
 ·go_wp2_with fail
  refine (below_any c _ _ HC1.out).mono ?_
  rintro e w2 ⟨a, rfl, a0, a1, hC, hT⟩
  have a2 := a1 (by omega)
  have HR2 : Hid (Bk w2 w.heap.size 39 #[.int .i64 0, .int .i64 0, .int .i64 0, .int .i64 0]) := HR1.out.turns hT (by omega)
  have HC2 : Hid (Cur w2 c) := hC
  have HT2 : Hid (Turns (fun k => k = c) w w2) := HT1.out.trans hT
  clear hC hT HR1 HC1 HT1
  clear a1
  have q0 := HR2.out.cell (i := 0) rfl
  have q1 := HR2.out.cell (i := 1) rfl
  have q2 := HR2.out.cell (i := 2) rfl
  have q3 := HR2.out.cell (i := 3) rfl
  have qf := HR2.out.free
  go_wp2
  clear q0 q1 q2 q3 qf
  obtain ⟨X5, hX5⟩ : ∃ X5, put4h w2 w.heap.size (.int .i64 5) (.int .i64 a) (.int .i64 0) (.int .i64 0) = X5 := ⟨_, rfl⟩
  have hP := HR2.out.put4h (.int .i64 5) (.int .i64 a) (.int .i64 0) (.int .i64 0)
  have ht := put4h_turns w2 w.heap.size (.int .i64 5) (.int .i64 a) (.int .i64 0) (.int .i64 0)
  rw [hX5] at hP ht
  unfold put4h at hX5
  rw [hX5]
  have t0 := hP.cell (i := 0) rfl
  have t1 := hP.cell (i := 1) rfl
  have t2 := hP.cell (i := 2) rfl
  have t3 := hP.cell (i := 3) rfl
  refine bodyPost_ret (v := .agg #[.int .i64 5, .int .i64 a, .int .i64 0, .int .i64 0]) (by simp [results, Tryz.results81, go_sem, t0, t1, t2, t3]) rfl ⟨⟨5, a, 0, 0⟩, rfl, ?_, HC2.out.turns ht (fun j hj => by omega), HT2.out.trans' ht (Nat.le_refl _)⟩
  simp [O.ok, okO]
  omega
 ·go_wp2_with fail
  refine (below_any c _ _ HC1.out).mono ?_
  rintro e w2 ⟨a, rfl, a0, a1, hC, hT⟩
  have a2 := a1 (by omega)
  have HR2 : Hid (Bk w2 w.heap.size 39 #[.int .i64 0, .int .i64 0, .int .i64 0, .int .i64 0]) := HR1.out.turns hT (by omega)
  have HC2 : Hid (Cur w2 c) := hC
  have HT2 : Hid (Turns (fun k => k = c) w w2) := HT1.out.trans hT
  clear hC hT HR1 HC1 HT1
  clear a1
  have q0 := HR2.out.cell (i := 0) rfl
  have q1 := HR2.out.cell (i := 1) rfl
  have q2 := HR2.out.cell (i := 2) rfl
  have q3 := HR2.out.cell (i := 3) rfl
  have qf := HR2.out.free
  go_wp2
  clear q0 q1 q2 q3 qf
  obtain ⟨X5, hX5⟩ : ∃ X5, put4h w2 w.heap.size (.int .i64 5) (.int .i64 a) (.int .i64 0) (.int .i64 0) = X5 := ⟨_, rfl⟩
  have hP := HR2.out.put4h (.int .i64 5) (.int .i64 a) (.int .i64 0) (.int .i64 0)
  have ht := put4h_turns w2 w.heap.size (.int .i64 5) (.int .i64 a) (.int .i64 0) (.int .i64 0)
  rw [hX5] at hP ht
  unfold put4h at hX5
  rw [hX5]
  have t0 := hP.cell (i := 0) rfl
  have t1 := hP.cell (i := 1) rfl
  have t2 := hP.cell (i := 2) rfl
  have t3 := hP.cell (i := 3) rfl
  refine bodyPost_ret (v := .agg #[.int .i64 5, .int .i64 a, .int .i64 0, .int .i64 0]) (by simp [results, Tryz.results81, go_sem, t0, t1, t2, t3]) rfl ⟨⟨5, a, 0, 0⟩, rfl, ?_, HC2.out.turns ht (fun j hj => by omega), HT2.out.trans' ht (Nat.le_refl _)⟩
  simp [O.ok, okO]
  omega
 ·go_wp2_with fail
  refine (below_any c _ _ HC1.out).mono ?_
  rintro e w2 ⟨a, rfl, a0, a1, hC, hT⟩
  have a2 := a1 (by omega)
  have HR2 : Hid (Bk w2 w.heap.size 39 #[.int .i64 0, .int .i64 0, .int .i64 0, .int .i64 0]) := HR1.out.turns hT (by omega)
  have HC2 : Hid (Cur w2 c) := hC
  have HT2 : Hid (Turns (fun k => k = c) w w2) := HT1.out.trans hT
  clear hC hT HR1 HC1 HT1
  clear a1
  have HS3 : Hid (w.heap.size ≤ w2.heap.size) := HT2.out.size
  have HRa : Hid (Bk (w2.alloc (.cells #[.int .i64 1, .int .i64 2, .int .i64 9] 3)) w.heap.size 39 #[.int .i64 0, .int .i64 0, .int .i64 0, .int .i64 0]) := HR2.out.alloc _
  have HCa : Hid (Cur (w2.alloc (.cells #[.int .i64 1, .int .i64 2, .int .i64 9] 3)) c) := HC2.out.alloc _
  have HTa : Hid (Turns (fun k => k = c) w (w2.alloc (.cells #[.int .i64 1, .int .i64 2, .int .i64 9] 3))) := HT2.out.alloc _
  have HLa : Hid (ListAt (w2.alloc (.cells #[.int .i64 1, .int .i64 2, .int .i64 9] 3)) w2.heap.size 3 (fun y => 1 ≤ y ∧ y ≤ 9)) := lstOf w2 3 [1, 2, 9] _ (by decide)
  go_wp2_with fail
  refine (pick_any c w2.heap.size 3 _ _ (by omega) (by omega) (by have := HS3.out; omega) HCa.out HLa.out).mono ?_
  rintro e w3 ⟨b, rfl, b0, hC, hT⟩
  have HR3 : Hid (Bk w3 w.heap.size 39 #[.int .i64 0, .int .i64 0, .int .i64 0, .int .i64 0]) := HRa.out.turns hT (by omega)
  have HC3 : Hid (Cur w3 c) := hC
  have HT3 : Hid (Turns (fun k => k = c) w w3) := HTa.out.trans hT
  clear hC hT HRa HCa HTa HLa HR2 HC2 HT2 HS3
  have q0 := HR3.out.cell (i := 0) rfl
  have q1 := HR3.out.cell (i := 1) rfl
  have q2 := HR3.out.cell (i := 2) rfl
  have q3 := HR3.out.cell (i := 3) rfl
  have qf := HR3.out.free
  go_wp2
  clear q0 q1 q2 q3 qf
  obtain ⟨X5, hX5⟩ : ∃ X5, put4h w3 w.heap.size (.int .i64 6) (.int .i64 a) (.int .i64 b) (.int .i64 0) = X5 := ⟨_, rfl⟩
  have hP := HR3.out.put4h (.int .i64 6) (.int .i64 a) (.int .i64 b) (.int .i64 0)
  have ht := put4h_turns w3 w.heap.size (.int .i64 6) (.int .i64 a) (.int .i64 b) (.int .i64 0)
  rw [hX5] at hP ht
  unfold put4h at hX5
  rw [hX5]
  have t0 := hP.cell (i := 0) rfl
  have t1 := hP.cell (i := 1) rfl
  have t2 := hP.cell (i := 2) rfl
  have t3 := hP.cell (i := 3) rfl
  refine bodyPost_ret (v := .agg #[.int .i64 6, .int .i64 a, .int .i64 b, .int .i64 0]) (by simp [results, Tryz.results81, go_sem, t0, t1, t2, t3]) rfl ⟨⟨6, a, b, 0⟩, rfl, ?_, HC3.out.turns ht (fun j hj => by omega), HT3.out.trans' ht (Nat.le_refl _)⟩
  simp [O.ok, okO]
  omega
end Go.Proofs.YtbljfphdghfkfaaGreatDoor
