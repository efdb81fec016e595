/- A drawn state. -/
import Derived.Test.YtmpoffepoafblaaGreatHandlesG33
import Derived.Test.YtmpoffepoafblaaGreatHandlesG04
namespace Go.Proofs.YtmpoffepoafblaaGreat
open Go.RowKit
abbrev put3s (w : World) (P : Nat) (v0 v1 v2 : Value) : World := ((w.setCell ⟨P, 0, none⟩ v0).setCell ⟨P, 1, none⟩ v1).setCell ⟨P, 2, none⟩ v2
theorem put3s_turns (w : World) (P : Nat) (v0 v1 v2 : Value) : Turns (fun b => b = P) w (put3s w P v0 v1 v2) :=
  ((put1_turns w P 0 v0).trans (put1_turns _ P 1 v1)).trans (put1_turns _ P 2 v2)
theorem Bk.put3s {w : World} {P : Nat} {T : TypeId} {a0 a1 a2 : Value} (h : Bk w P T #[a0, a1, a2]) (v0 v1 v2 : Value) : Bk (put3s w P v0 v1 v2) P T #[v0, v1, v2] :=
  ((h.put 0 v0).put 1 v1).put 2 v2
theorem isI_two {w : World} {G : Nat} {a b : Int} (h : Bk w G 3 #[.int .i64 a, .int .i64 b]) : IsI w (.slice (some ⟨G, 0, none⟩) 2 2) [a, b] := by
  refine ⟨_, 2, rfl, Nat.le_refl _, by unfold maxLen; omega, .inr ⟨_, 0, rfl, h.lt, fun i hi => ?_⟩⟩
  have h2 : i = 0 ∨ i = 1 := by simp at hi; omega
  rcases h2 with rfl | rfl <;> exact h.cell rfl
theorem isI_behind {w : World} {G : Nat} {a b : Int} (h : Bk w G 3 #[.int .i64 a, .int .i64 b]) : IsI w (.slice (some ⟨G, 1, none⟩) 1 1) [b] := by
  refine ⟨_, 1, rfl, Nat.le_refl _, by unfold maxLen; omega, .inr ⟨_, 1, rfl, h.lt, fun i hi => ?_⟩⟩
  obtain rfl : i = 0 := by simp at hi; omega
  exact h.cell rfl
/- A state whose registers lie in a block of its own from B on. -/
def LiesS (B : Nat) (w : World) (x : Value) (s : St) : Prop := ∃ G, B ≤ G ∧ G < w.heap.size ∧ ∀ (S : Nat → Prop) (w' : World), Turns S w w' → ¬ S G → IsS w' x s
theorem LiesS.isS {B : Nat} {w : World} {x : Value} {s : St} (h : LiesS B w x s) : IsS w x s := by
  obtain ⟨G, _, _, h⟩ := h
  exact h (fun _ => False) w (Turns.refl _ w) id
set_option maxRecDepth 100000 in
set_option maxHeartbeats 16000000 in
theorem l3state_any (c : Nat) (w : World) (H : Cur w c) :
    Calls Tryz.prog 80 #[.pointer (some ⟨c, 0, none⟩)] w fun e w' => ∃ (s : St) (x : Value), e = .returned x ∧ LiesS w.heap.size w' x s ∧ s.r.length ≤ 2 ∧ -1 ≤ s.q ∧ s.q ≤ 99993 ∧ Cur w' c ∧ Turns (fun k => k = c) w w' := by
  have hcw : c < w.heap.size := H.lt
  obtain ⟨W0, hW0⟩ : ∃ W0, w.alloc (.cells #[.slice none 0 0, .int .i64 0, .int .i64 0] 48) = W0 := ⟨_, rfl⟩
  have HR0 : Hid (Bk W0 w.heap.size 48 #[.slice none 0 0, .int .i64 0, .int .i64 0]) := hW0 ▸ Bk.new w _ _
  have HC0 : Hid (Cur W0 c) := hW0 ▸ H.alloc _
  have HT0 : Hid (Turns (fun k => k = c) w W0) := hW0 ▸ (Turns.refl _ w).alloc _
  have HW0 : Hid (w.alloc (.cells #[.slice none 0 0, .int .i64 0, .int .i64 0] 48) = W0) := hW0
  have hs0 : W0.heap.size = w.heap.size + 1 := by rw [← hW0]; simp
  clear hW0 H
  have HRa : Hid (Bk (W0.alloc (.cells #[.int .i64 0, .int .i64 1, .int .i64 5, .int .i64 999] 3)) w.heap.size 48 #[.slice none 0 0, .int .i64 0, .int .i64 0]) := HR0.out.alloc _
  have HCa : Hid (Cur (W0.alloc (.cells #[.int .i64 0, .int .i64 1, .int .i64 5, .int .i64 999] 3)) c) := HC0.out.alloc _
  have HTa : Hid (Turns (fun k => k = c) w (W0.alloc (.cells #[.int .i64 0, .int .i64 1, .int .i64 5, .int .i64 999] 3))) := HT0.out.alloc _
  have HLa : Hid (ListAt (W0.alloc (.cells #[.int .i64 0, .int .i64 1, .int .i64 5, .int .i64 999] 3)) (w.heap.size + 1) 4 (fun y => 0 ≤ y ∧ y ≤ 999)) := hs0 ▸ lstOf W0 3 [0, 1, 5, 999] _ (by decide)
  clear hs0
  go_enter Tryz.func80, Tryz.ntmps80
  go_wp2_with fail
  rw [HW0.out]
  clear HW0
  refine (pick_any c (w.heap.size + 1) 4 _ _ (by omega) (by omega) (by omega) HCa.out HLa.out).mono ?_
  rintro e w1 ⟨g1, rfl, g10, hC, hT⟩
  have HR1 : Hid (Bk w1 w.heap.size 48 #[.slice none 0 0, .int .i64 0, .int .i64 0]) := HRa.out.turns hT (by omega)
  have HC1 : Hid (Cur w1 c) := hC
  have HT1 : Hid (Turns (fun k => k = c) w w1) := HTa.out.trans hT
  clear hC hT HRa HCa HTa HLa HR0 HC0 HT0
  go_wp2_with fail
  refine (below_any c _ _ HC1.out).mono ?_
  rintro e w2 ⟨g2, rfl, g20, g21, hC, hT⟩
  have g22 := g21 (by omega)
  have HR2 : Hid (Bk w2 w.heap.size 48 #[.slice none 0 0, .int .i64 0, .int .i64 0]) := HR1.out.turns hT (by omega)
  have HC2 : Hid (Cur w2 c) := hC
  have HT2 : Hid (Turns (fun k => k = c) w w2) := HT1.out.trans hT
  clear hC hT g21 HR1 HC1 HT1
  obtain ⟨G, hG⟩ : ∃ G, G = w2.heap.size := ⟨_, rfl⟩
  have hGw : w.heap.size < G := by have := HR2.out.lt; omega
  have HG : Hid (G = w2.heap.size) := hG
  obtain ⟨W3, hW3⟩ : ∃ W3, w2.alloc (.cells #[.int .i64 g1, .int .i64 g2] 3) = W3 := ⟨_, rfl⟩
  have HR3 : Hid (Bk W3 w.heap.size 48 #[.slice none 0 0, .int .i64 0, .int .i64 0]) := hW3 ▸ HR2.out.alloc _
  have HG3 : Hid (Bk W3 G 3 #[.int .i64 g1, .int .i64 g2]) := hW3 ▸ hG ▸ Bk.new w2 _ _
  have HC3 : Hid (Cur W3 c) := hW3 ▸ HC2.out.alloc _
  have HT3 : Hid (Turns (fun k => k = c) w W3) := hW3 ▸ HT2.out.alloc _
  have HW3 : Hid (w2.alloc (.cells #[.int .i64 g1, .int .i64 g2] 3) = W3) := hW3
  clear hG hW3 HR2 HC2 HT2
  go_wp2_with fail
  rw [HW3.out, ← HG.out]
  clear HW3 HG
  refine (below_any c _ _ HC3.out).mono ?_
  rintro e w4 ⟨q, rfl, q0, q1, hC, hT⟩
  have q2 := q1 (by omega)
  have HR4 : Hid (Bk w4 w.heap.size 48 #[.slice none 0 0, .int .i64 0, .int .i64 0]) := HR3.out.turns hT (by omega)
  have HG4 : Hid (Bk w4 G 3 #[.int .i64 g1, .int .i64 g2]) := HG3.out.turns hT (by omega)
  have HC4 : Hid (Cur w4 c) := hC
  have HT4 : Hid (Turns (fun k => k = c) w w4) := HT3.out.trans hT
  clear hC hT q1 HR3 HG3 HC3 HT3
  go_wp2_with fail
  refine (below_any c _ _ HC4.out).mono ?_
  rintro e w5 ⟨d, rfl, d0, d1, hC, hT⟩
  have HR5 : Hid (Bk w5 w.heap.size 48 #[.slice none 0 0, .int .i64 0, .int .i64 0]) := HR4.out.turns hT (by omega)
  have HG5 : Hid (Bk w5 G 3 #[.int .i64 g1, .int .i64 g2]) := HG4.out.turns hT (by omega)
  have HC5 : Hid (Cur w5 c) := hC
  have HT5 : Hid (Turns (fun k => k = c) w w5) := HT4.out.trans hT
  clear hC hT d1 HR4 HG4 HC4 HT4
  obtain ⟨Sb, hSb⟩ : ∃ Sb, Sb = w5.heap.size := ⟨_, rfl⟩
  have hSG : G < Sb := by have := HG5.out.lt; omega
  have HSb : Hid (Sb = w5.heap.size) := hSb
  obtain ⟨W6, hW6⟩ : ∃ W6, w5.alloc (.cells #[.slice (some ⟨G, 0, none⟩) 2 2, .int .i64 q, .int .i64 d] 48) = W6 := ⟨_, rfl⟩
  have HD6 : Hid (Bk W6 w.heap.size 48 #[.slice none 0 0, .int .i64 0, .int .i64 0] ∧ Bk W6 Sb 48 #[.slice (some ⟨G, 0, none⟩) 2 2, .int .i64 q, .int .i64 d] ∧ Bk W6 G 3 #[.int .i64 g1, .int .i64 g2] ∧ Cur W6 c ∧ Turns (fun k => k = c) w W6) := hW6 ▸ ⟨HR5.out.alloc _, hSb ▸ Bk.new w5 _ _, HG5.out.alloc _, HC5.out.alloc _, HT5.out.alloc _⟩
  have HW6 : Hid (w5.alloc (.cells #[.slice (some ⟨G, 0, none⟩) 2 2, .int .i64 q, .int .i64 d] 48) = W6) := hW6
  clear hSb hW6 HR5 HG5 HC5 HT5
  go_wp2_with fail
  rw [HW6.out, ← HSb.out]
  clear HW6 HSb
  refine (once_any c _ _ HD6.out.2.2.2.1).mono ?_
  rintro e w7 ⟨b, rfl, hC, hT⟩
  have HD7 : Hid (Bk w7 w.heap.size 48 #[.slice none 0 0, .int .i64 0, .int .i64 0] ∧ Bk w7 Sb 48 #[.slice (some ⟨G, 0, none⟩) 2 2, .int .i64 q, .int .i64 d] ∧ Bk w7 G 3 #[.int .i64 g1, .int .i64 g2] ∧ Cur w7 c ∧ Turns (fun k => k = c) w w7) := ⟨HD6.out.1.turns hT (by omega), HD6.out.2.1.turns hT (by omega), HD6.out.2.2.1.turns hT (by omega), hC, HD6.out.2.2.2.2.trans hT⟩
  clear hC hT HD6
  cases b with
  | false =>
    have b0 := HD7.out.2.1.cell (i := 0) rfl
    have b1 := HD7.out.2.1.cell (i := 1) rfl
    have b2 := HD7.out.2.1.cell (i := 2) rfl
    have z0 := HD7.out.1.cell (i := 0) rfl
    have z1 := HD7.out.1.cell (i := 1) rfl
    have z2 := HD7.out.1.cell (i := 2) rfl
    have zf := HD7.out.1.free
    go_wp2
    clear z0 z1 z2 zf b0 b1 b2
    obtain ⟨X5, hX5⟩ : ∃ X5, put3s w7 w.heap.size (.slice (some ⟨G, 0, none⟩) 2 2) (.int .i64 q) (.int .i64 d) = X5 := ⟨_, rfl⟩
    have hP := HD7.out.1.put3s (.slice (some ⟨G, 0, none⟩) 2 2) (.int .i64 q) (.int .i64 d)
    have ht := put3s_turns w7 w.heap.size (.slice (some ⟨G, 0, none⟩) 2 2) (.int .i64 q) (.int .i64 d)
    rw [hX5] at hP ht
    unfold put3s at hX5
    rw [hX5]
    have t0 := hP.cell (i := 0) rfl
    have t1 := hP.cell (i := 1) rfl
    have t2 := hP.cell (i := 2) rfl
    refine bodyPost_ret (v := .agg #[.slice (some ⟨G, 0, none⟩) 2 2, .int .i64 q, .int .i64 d]) (by simp [results, Tryz.results80, go_sem, t0, t1, t2]) rfl ⟨⟨[g1, g2], q, d⟩, _, rfl, ⟨G, by omega, (HD7.out.2.2.1.turns ht (by omega)).lt, fun S w'' hS hn => ⟨_, rfl, isI_two ((HD7.out.2.2.1.turns ht (by omega)).turns hS hn)⟩⟩, by simp, by dsimp only; omega, by dsimp only; omega, HD7.out.2.2.2.1.turns ht (fun j hj => by omega), HD7.out.2.2.2.2.trans' ht (Nat.le_refl _)⟩
  | true =>
    go_wp2_with fail
    refine (below_any c _ _ HD7.out.2.2.2.1).mono ?_
    rintro e w8 ⟨x, rfl, x0, x1, hC, hT⟩
    have x2 := x1 (by omega)
    have HD8 : Hid (Bk w8 w.heap.size 48 #[.slice none 0 0, .int .i64 0, .int .i64 0] ∧ Bk w8 Sb 48 #[.slice (some ⟨G, 0, none⟩) 2 2, .int .i64 q, .int .i64 d] ∧ Bk w8 G 3 #[.int .i64 g1, .int .i64 g2] ∧ Cur w8 c ∧ Turns (fun k => k = c) w w8) := ⟨HD7.out.1.turns hT (by omega), HD7.out.2.1.turns hT (by omega), HD7.out.2.2.1.turns hT (by omega), hC, HD7.out.2.2.2.2.trans hT⟩
    have x3 : x = 0 ∨ x = 1 ∨ x = 2 := by omega
    clear hC hT x0 x1 x2 HD7
    rcases x3 with rfl | rfl | rfl
    · have g0 := HD8.out.2.1.cell (i := 0) rfl
      have gf := HD8.out.2.1.free 0
      obtain ⟨W9, hW⟩ : ∃ V, w8.setCell ⟨Sb, 0, none⟩ (.slice (some ⟨G, 1, none⟩) 1 1) = V := ⟨_, rfl⟩
      have ht0 := put1_turns w8 Sb 0 (.slice (some ⟨G, 1, none⟩) 1 1)
      have HD9 : Hid (Bk W9 w.heap.size 48 #[.slice none 0 0, .int .i64 0, .int .i64 0] ∧ Bk W9 Sb 48 #[.slice (some ⟨G, 1, none⟩) 1 1, .int .i64 q, .int .i64 d] ∧ Bk W9 G 3 #[.int .i64 g1, .int .i64 g2] ∧ Cur W9 c ∧ Turns (fun k => k = c) w W9) := hW ▸ ⟨HD8.out.1.turns ht0 (by omega), HD8.out.2.1.put 0 _, HD8.out.2.2.1.turns ht0 (by omega), HD8.out.2.2.2.1.put (by omega) _ _, HD8.out.2.2.2.2.setNew (by omega) _ _⟩
      have b0 := HD9.out.2.1.cell (i := 0) rfl
      have b1 := HD9.out.2.1.cell (i := 1) rfl
      have b2 := HD9.out.2.1.cell (i := 2) rfl
      have z0 := HD9.out.1.cell (i := 0) rfl
      have z1 := HD9.out.1.cell (i := 1) rfl
      have z2 := HD9.out.1.cell (i := 2) rfl
      have zf := HD9.out.1.free
      go_wp2
      clear g0 gf hW ht0
      clear z0 z1 z2 zf b0 b1 b2
      obtain ⟨X5, hX5⟩ : ∃ X5, put3s W9 w.heap.size (.slice (some ⟨G, 1, none⟩) 1 1) (.int .i64 q) (.int .i64 d) = X5 := ⟨_, rfl⟩
      have hP := HD9.out.1.put3s (.slice (some ⟨G, 1, none⟩) 1 1) (.int .i64 q) (.int .i64 d)
      have ht := put3s_turns W9 w.heap.size (.slice (some ⟨G, 1, none⟩) 1 1) (.int .i64 q) (.int .i64 d)
      rw [hX5] at hP ht
      unfold put3s at hX5
      rw [hX5]
      have t0 := hP.cell (i := 0) rfl
      have t1 := hP.cell (i := 1) rfl
      have t2 := hP.cell (i := 2) rfl
      refine bodyPost_ret (v := .agg #[.slice (some ⟨G, 1, none⟩) 1 1, .int .i64 q, .int .i64 d]) (by simp [results, Tryz.results80, go_sem, t0, t1, t2]) rfl ⟨⟨[g2], q, d⟩, _, rfl, ⟨G, by omega, (HD9.out.2.2.1.turns ht (by omega)).lt, fun S w'' hS hn => ⟨_, rfl, isI_behind ((HD9.out.2.2.1.turns ht (by omega)).turns hS hn)⟩⟩, by simp, by dsimp only; omega, by dsimp only; omega, HD9.out.2.2.2.1.turns ht (fun j hj => by omega), HD9.out.2.2.2.2.trans' ht (Nat.le_refl _)⟩
    · have HA0 : Hid (Bk w8.drew w.heap.size 48 #[.slice none 0 0, .int .i64 0, .int .i64 0] ∧ Bk w8.drew Sb 48 #[.slice (some ⟨G, 0, none⟩) 2 2, .int .i64 q, .int .i64 d] ∧ Bk w8.drew G 3 #[.int .i64 g1, .int .i64 g2] ∧ Cur w8.drew c ∧ Turns (fun k => k = c) w w8.drew) := ⟨HD8.out.1.drew, HD8.out.2.1.drew, HD8.out.2.2.1.drew, HD8.out.2.2.2.1.drew, ⟨HD8.out.2.2.2.2.os, HD8.out.2.2.2.2.tape, HD8.out.2.2.2.2.output, HD8.out.2.2.2.2.size, HD8.out.2.2.2.2.block⟩⟩
      have HA : Hid (Bk (w8.drew.alloc (.cells #[.int .i64 (-1), .int .i64 1000] 3)) w.heap.size 48 #[.slice none 0 0, .int .i64 0, .int .i64 0] ∧ Bk (w8.drew.alloc (.cells #[.int .i64 (-1), .int .i64 1000] 3)) Sb 48 #[.slice (some ⟨G, 0, none⟩) 2 2, .int .i64 q, .int .i64 d] ∧ Bk (w8.drew.alloc (.cells #[.int .i64 (-1), .int .i64 1000] 3)) G 3 #[.int .i64 g1, .int .i64 g2] ∧ Cur (w8.drew.alloc (.cells #[.int .i64 (-1), .int .i64 1000] 3)) c ∧ Turns (fun k => k = c) w (w8.drew.alloc (.cells #[.int .i64 (-1), .int .i64 1000] 3))) := ⟨HA0.out.1.alloc _, HA0.out.2.1.alloc _, HA0.out.2.2.1.alloc _, HA0.out.2.2.2.1.alloc _, HA0.out.2.2.2.2.alloc _⟩
      have HL : Hid (ListAt (w8.drew.alloc (.cells #[.int .i64 (-1), .int .i64 1000] 3)) w8.drew.heap.size 2 (fun y => -1 ≤ y ∧ y ≤ 1000)) := lstOf w8.drew 3 [-1, 1000] _ (by decide)
      have HS : Hid (w.heap.size ≤ w8.drew.heap.size) := HA0.out.2.2.2.2.size
      have HK : Hid (w8.drew.cell? ⟨Sb, 0, none⟩ = some (.slice (some ⟨G, 0, none⟩) 2 2)) := HA0.out.2.1.cell rfl
      have HK1 : Hid ((w8.drew.alloc (.cells #[.int .i64 (-1), .int .i64 1000] 3)).cell? ⟨Sb, 0, none⟩ = some (.slice (some ⟨G, 0, none⟩) 2 2)) := HA.out.2.1.cell rfl
      clear HD8
      go_wp2_with fail
      refine wp_region_z 6 (fun W => W.cell? ⟨Sb, 0, none⟩ = some (.slice (some ⟨G, 0, none⟩) 2 2)) (by kernel_rfl) HK.out (fun hHeld => ?_)
      refine wpAnyZ_take (i := 0) (oi := { dst := some 35, op := Op.fieldAddr 48 (Operand.tmp 3) 0, type := 0, pos := _, after := _, guard := none }) (v := .pointer (some ⟨Sb, 0, none⟩)) 0 [] rfl (by kernel_rfl) (by kernel_rfl) (by kernel_rfl) (by kernel_rfl) (by kernel_rfl) (fun _ _ _ h => h) (Or.inl ⟨by rfl, ?_⟩) (by assumption) ?_
      · intro wX hSw
        try dsimp only at hSw
        go_simp
        try exact IntWalk.i64_in _ (by omega)
      try simp only [Act.put, List.setIfInBounds_toArray, List.set_cons_zero, List.set_cons_succ]
      refine wpAnyZ_take (i := 1) (oi := { dst := some 36, op := Op.load 22 (Operand.tmp 35), type := 22, pos := _, after := _, guard := none }) (v := .slice (some ⟨G, 0, none⟩) 2 2) 1 [] rfl (by kernel_rfl) (by kernel_rfl) (by kernel_rfl) (by kernel_rfl) (by kernel_rfl) (fun _ _ _ h => h) (Or.inl ⟨by rfl, ?_⟩) (by assumption) ?_
      · intro wX hSw
        try dsimp only at hSw
        go_simp
        try exact IntWalk.i64_in _ (by omega)
      try simp only [Act.put, List.setIfInBounds_toArray, List.set_cons_zero, List.set_cons_succ]
      refine wpAnyZ_take (i := 2) (oi := { dst := some 37, op := Op.move (Operand.tmp 0), type := 124, pos := _, after := _, guard := none }) (v := .pointer (some ⟨c, 0, none⟩)) 2 [] rfl (by kernel_rfl) (by kernel_rfl) (by kernel_rfl) (by kernel_rfl) (by kernel_rfl) (fun _ _ _ h => h) (Or.inl ⟨by rfl, ?_⟩) (by assumption) ?_
      · intro wX hSw
        try dsimp only at hSw
        go_simp
        try exact IntWalk.i64_in _ (by omega)
      try simp only [Act.put, List.setIfInBounds_toArray, List.set_cons_zero, List.set_cons_succ]
      refine wpAnyZ_ready (rs := [3]) (by kernel_rfl) (by simp) ?_
      refine AllReadyZ.cons (o := { dst := some 38, op := Op.buildSlice 22 2 #[(0, Operand.const (Value.int IntKind.i64 (-1))), (1, Operand.const (Value.int IntKind.i64 1000))], type := 22, pos := _, after := _, guard := none }) rfl (fun K hK => ?_) AllReadyZ.nil
      go_simp
      refine hK.out _ _ HK1.out (fun hHeld => ?_)
      clear hK K
      try simp only [Act.put, List.setIfInBounds_toArray, List.set_cons_zero, List.set_cons_succ]
      refine wpAnyZ_ready (rs := [4]) (by kernel_rfl) (by simp) ?_
      refine AllReadyZ.cons (o := { dst := some 39, op := Op.call { callee := Callee.value (Operand.func 157), args := #[Operand.tmp 37, Operand.tmp 38], argTypes := #[124, 22] }, type := 3, pos := _, after := _, guard := none }) rfl (fun K hK => ?_) AllReadyZ.nil
      go_simp
      refine (pick_any c w8.drew.heap.size 2 _ _ (by omega) (by omega) (by have := HS.out; omega) HA.out.2.2.2.1 HL.out).mono ?_
      rintro e w9 ⟨y, rfl, y0, hC, hT⟩
      have HD9 : Hid (Bk w9 w.heap.size 48 #[.slice none 0 0, .int .i64 0, .int .i64 0] ∧ Bk w9 Sb 48 #[.slice (some ⟨G, 0, none⟩) 2 2, .int .i64 q, .int .i64 d] ∧ Bk w9 G 3 #[.int .i64 g1, .int .i64 g2] ∧ Cur w9 c ∧ Turns (fun k => k = c) w w9) := ⟨HA.out.1.turns hT (by omega), HA.out.2.1.turns hT (by omega), HA.out.2.2.1.turns hT (by omega), hC, HA.out.2.2.2.2.trans hT⟩
      have HK2 : Hid (w9.cell? ⟨Sb, 0, none⟩ = some (.slice (some ⟨G, 0, none⟩) 2 2)) := HD9.out.2.1.cell rfl
      have hc0 := HD9.out.2.2.1.cell (i := 1) rfl
      have hf0 := HD9.out.2.2.1.free 1
      clear hC hT HA HL HA0
      refine hK.out _ _ HK2.out (fun hHeld => ?_)
      clear hK K
      try simp only [Act.put, List.setIfInBounds_toArray, List.set_cons_zero, List.set_cons_succ]
      refine wpAnyZ_take (i := 5) (oi := { dst := some 40, op := Op.indexAddr 22 (Operand.tmp 36) (Operand.const (Value.int IntKind.i64 1)), type := 0, pos := _, after := _, guard := none }) (v := .pointer (some ⟨G, 1, none⟩)) 5 [] rfl (by kernel_rfl) (by kernel_rfl) (by kernel_rfl) (by kernel_rfl) (by kernel_rfl) (fun _ _ _ h => h) (Or.inl ⟨by rfl, ?_⟩) (by assumption) ?_
      · intro wX hSw
        try dsimp only at hSw
        go_simp
        try exact IntWalk.i64_in _ (by omega)
      try simp only [Act.put, List.setIfInBounds_toArray, List.set_cons_zero, List.set_cons_succ]
      refine wpAnyZ_ready (rs := [6]) (by kernel_rfl) (by simp) ?_
      refine AllReadyZ.last (o := { dst := none, op := Op.store 3 (Operand.tmp 40) (Operand.tmp 39), type := 0, pos := _, after := _, guard := none }) rfl (fun K hK => ?_)
      go_simp
      refine hK.out _ _ ?_
      clear hK K
      try simp only [Act.put, List.setIfInBounds_toArray, List.set_cons_zero, List.set_cons_succ]
      refine wpAnyZ_done (by kernel_rfl) ?_ _
      clear hc0 hf0 HK HK1 HK2 hHeld
      obtain ⟨W9, hW⟩ : ∃ V, w9.setCell ⟨G, 1, none⟩ (.int .i64 y) = V := ⟨_, rfl⟩
      have ht0 := put1_turns w9 G 1 (.int .i64 y)
      have HD10 : Hid (Bk W9 w.heap.size 48 #[.slice none 0 0, .int .i64 0, .int .i64 0] ∧ Bk W9 Sb 48 #[.slice (some ⟨G, 0, none⟩) 2 2, .int .i64 q, .int .i64 d] ∧ Bk W9 G 3 #[.int .i64 g1, .int .i64 y] ∧ Cur W9 c ∧ Turns (fun k => k = c) w W9) := hW ▸ ⟨HD9.out.1.turns ht0 (by omega), HD9.out.2.1.turns ht0 (by omega), HD9.out.2.2.1.put 1 _, HD9.out.2.2.2.1.put (by omega) _ _, HD9.out.2.2.2.2.setNew (by omega) _ _⟩
      rw [hW]
      clear hW ht0 HD9
      have b0 := HD10.out.2.1.cell (i := 0) rfl
      have b1 := HD10.out.2.1.cell (i := 1) rfl
      have b2 := HD10.out.2.1.cell (i := 2) rfl
      have z0 := HD10.out.1.cell (i := 0) rfl
      have z1 := HD10.out.1.cell (i := 1) rfl
      have z2 := HD10.out.1.cell (i := 2) rfl
      have zf := HD10.out.1.free
      go_wp2
      clear z0 z1 z2 zf b0 b1 b2
      obtain ⟨X5, hX5⟩ : ∃ X5, put3s W9 w.heap.size (.slice (some ⟨G, 0, none⟩) 2 2) (.int .i64 q) (.int .i64 d) = X5 := ⟨_, rfl⟩
      have hP := HD10.out.1.put3s (.slice (some ⟨G, 0, none⟩) 2 2) (.int .i64 q) (.int .i64 d)
      have ht := put3s_turns W9 w.heap.size (.slice (some ⟨G, 0, none⟩) 2 2) (.int .i64 q) (.int .i64 d)
      rw [hX5] at hP ht
      unfold put3s at hX5
      rw [hX5]
      have t0 := hP.cell (i := 0) rfl
      have t1 := hP.cell (i := 1) rfl
      have t2 := hP.cell (i := 2) rfl
      refine bodyPost_ret (v := .agg #[.slice (some ⟨G, 0, none⟩) 2 2, .int .i64 q, .int .i64 d]) (by simp [results, Tryz.results80, go_sem, t0, t1, t2]) rfl ⟨⟨[g1, y], q, d⟩, _, rfl, ⟨G, by omega, (HD10.out.2.2.1.turns ht (by omega)).lt, fun S w'' hS hn => ⟨_, rfl, isI_two ((HD10.out.2.2.1.turns ht (by omega)).turns hS hn)⟩⟩, by simp, by dsimp only; omega, by dsimp only; omega, HD10.out.2.2.2.1.turns ht (fun j hj => by omega), HD10.out.2.2.2.2.trans' ht (Nat.le_refl _)⟩
    · have HL : Hid (ListAt (w8.alloc (.cells #[.int .i64 (-1), .int .i64 99992, .int .i64 99993, .int .i64 3] 3)) w8.heap.size 4 (fun y => -1 ≤ y ∧ y ≤ 99993)) := lstOf w8 3 [-1, 99992, 99993, 3] _ (by decide)
      have HA : Hid (Bk (w8.alloc (.cells #[.int .i64 (-1), .int .i64 99992, .int .i64 99993, .int .i64 3] 3)) w.heap.size 48 #[.slice none 0 0, .int .i64 0, .int .i64 0] ∧ Bk (w8.alloc (.cells #[.int .i64 (-1), .int .i64 99992, .int .i64 99993, .int .i64 3] 3)) Sb 48 #[.slice (some ⟨G, 0, none⟩) 2 2, .int .i64 q, .int .i64 d] ∧ Bk (w8.alloc (.cells #[.int .i64 (-1), .int .i64 99992, .int .i64 99993, .int .i64 3] 3)) G 3 #[.int .i64 g1, .int .i64 g2] ∧ Cur (w8.alloc (.cells #[.int .i64 (-1), .int .i64 99992, .int .i64 99993, .int .i64 3] 3)) c ∧ Turns (fun k => k = c) w (w8.alloc (.cells #[.int .i64 (-1), .int .i64 99992, .int .i64 99993, .int .i64 3] 3))) := ⟨HD8.out.1.alloc _, HD8.out.2.1.alloc _, HD8.out.2.2.1.alloc _, HD8.out.2.2.2.1.alloc _, HD8.out.2.2.2.2.alloc _⟩
      have HS : Hid (w.heap.size ≤ w8.heap.size) := HD8.out.2.2.2.2.size
      go_wp2_with fail
      refine (pick_any c w8.heap.size 4 _ _ (by omega) (by omega) (by have := HS.out; omega) HA.out.2.2.2.1 HL.out).mono ?_
      rintro e w9 ⟨y, rfl, y0, hC, hT⟩
      have HD9 : Hid (Bk w9 w.heap.size 48 #[.slice none 0 0, .int .i64 0, .int .i64 0] ∧ Bk w9 Sb 48 #[.slice (some ⟨G, 0, none⟩) 2 2, .int .i64 q, .int .i64 d] ∧ Bk w9 G 3 #[.int .i64 g1, .int .i64 g2] ∧ Cur w9 c ∧ Turns (fun k => k = c) w w9) := ⟨HA.out.1.turns hT (by omega), HA.out.2.1.turns hT (by omega), HA.out.2.2.1.turns hT (by omega), hC, HA.out.2.2.2.2.trans hT⟩
      clear hC hT HL HA HS HD8
      have g0 := HD9.out.2.1.cell (i := 1) rfl
      have gf := HD9.out.2.1.free 1
      obtain ⟨W10, hW⟩ : ∃ V, w9.setCell ⟨Sb, 1, none⟩ (.int .i64 y) = V := ⟨_, rfl⟩
      have ht0 := put1_turns w9 Sb 1 (.int .i64 y)
      have HD10 : Hid (Bk W10 w.heap.size 48 #[.slice none 0 0, .int .i64 0, .int .i64 0] ∧ Bk W10 Sb 48 #[.slice (some ⟨G, 0, none⟩) 2 2, .int .i64 y, .int .i64 d] ∧ Bk W10 G 3 #[.int .i64 g1, .int .i64 g2] ∧ Cur W10 c ∧ Turns (fun k => k = c) w W10) := hW ▸ ⟨HD9.out.1.turns ht0 (by omega), HD9.out.2.1.put 1 _, HD9.out.2.2.1.turns ht0 (by omega), HD9.out.2.2.2.1.put (by omega) _ _, HD9.out.2.2.2.2.setNew (by omega) _ _⟩
      clear ht0
      have HL : Hid (ListAt (W10.alloc (.cells #[.int .i64 (-1), .int .i64 99992, .int .i64 99993, .int .i64 3] 3)) W10.heap.size 4 (fun y => -1 ≤ y ∧ y ≤ 99993)) := lstOf W10 3 [-1, 99992, 99993, 3] _ (by decide)
      have HA : Hid (Bk (W10.alloc (.cells #[.int .i64 (-1), .int .i64 99992, .int .i64 99993, .int .i64 3] 3)) w.heap.size 48 #[.slice none 0 0, .int .i64 0, .int .i64 0] ∧ Bk (W10.alloc (.cells #[.int .i64 (-1), .int .i64 99992, .int .i64 99993, .int .i64 3] 3)) Sb 48 #[.slice (some ⟨G, 0, none⟩) 2 2, .int .i64 y, .int .i64 d] ∧ Bk (W10.alloc (.cells #[.int .i64 (-1), .int .i64 99992, .int .i64 99993, .int .i64 3] 3)) G 3 #[.int .i64 g1, .int .i64 g2] ∧ Cur (W10.alloc (.cells #[.int .i64 (-1), .int .i64 99992, .int .i64 99993, .int .i64 3] 3)) c ∧ Turns (fun k => k = c) w (W10.alloc (.cells #[.int .i64 (-1), .int .i64 99992, .int .i64 99993, .int .i64 3] 3))) := ⟨HD10.out.1.alloc _, HD10.out.2.1.alloc _, HD10.out.2.2.1.alloc _, HD10.out.2.2.2.1.alloc _, HD10.out.2.2.2.2.alloc _⟩
      have HS : Hid (w.heap.size ≤ W10.heap.size) := HD10.out.2.2.2.2.size
      go_wp2_with fail
      clear g0 gf hW
      refine (pick_any c W10.heap.size 4 _ _ (by omega) (by omega) (by have := HS.out; omega) HA.out.2.2.2.1 HL.out).mono ?_
      rintro e w11 ⟨y9, rfl, y90, hC, hT⟩
      have HD11 : Hid (Bk w11 w.heap.size 48 #[.slice none 0 0, .int .i64 0, .int .i64 0] ∧ Bk w11 Sb 48 #[.slice (some ⟨G, 0, none⟩) 2 2, .int .i64 y, .int .i64 d] ∧ Bk w11 G 3 #[.int .i64 g1, .int .i64 g2] ∧ Cur w11 c ∧ Turns (fun k => k = c) w w11) := ⟨HA.out.1.turns hT (by omega), HA.out.2.1.turns hT (by omega), HA.out.2.2.1.turns hT (by omega), hC, HA.out.2.2.2.2.trans hT⟩
      clear hC hT HL HA HS HD10
      have g0 := HD11.out.2.1.cell (i := 2) rfl
      have gf := HD11.out.2.1.free 2
      obtain ⟨W12, hW⟩ : ∃ V, w11.setCell ⟨Sb, 2, none⟩ (.int .i64 y9) = V := ⟨_, rfl⟩
      have ht0 := put1_turns w11 Sb 2 (.int .i64 y9)
      have HD12 : Hid (Bk W12 w.heap.size 48 #[.slice none 0 0, .int .i64 0, .int .i64 0] ∧ Bk W12 Sb 48 #[.slice (some ⟨G, 0, none⟩) 2 2, .int .i64 y, .int .i64 y9] ∧ Bk W12 G 3 #[.int .i64 g1, .int .i64 g2] ∧ Cur W12 c ∧ Turns (fun k => k = c) w W12) := hW ▸ ⟨HD11.out.1.turns ht0 (by omega), HD11.out.2.1.put 2 _, HD11.out.2.2.1.turns ht0 (by omega), HD11.out.2.2.2.1.put (by omega) _ _, HD11.out.2.2.2.2.setNew (by omega) _ _⟩
      clear ht0
      have b0 := HD12.out.2.1.cell (i := 0) rfl
      have b1 := HD12.out.2.1.cell (i := 1) rfl
      have b2 := HD12.out.2.1.cell (i := 2) rfl
      have z0 := HD12.out.1.cell (i := 0) rfl
      have z1 := HD12.out.1.cell (i := 1) rfl
      have z2 := HD12.out.1.cell (i := 2) rfl
      have zf := HD12.out.1.free
      go_wp2
      clear g0 gf hW
      clear z0 z1 z2 zf b0 b1 b2
      obtain ⟨X5, hX5⟩ : ∃ X5, put3s W12 w.heap.size (.slice (some ⟨G, 0, none⟩) 2 2) (.int .i64 y) (.int .i64 y9) = X5 := ⟨_, rfl⟩
      have hP := HD12.out.1.put3s (.slice (some ⟨G, 0, none⟩) 2 2) (.int .i64 y) (.int .i64 y9)
      have ht := put3s_turns W12 w.heap.size (.slice (some ⟨G, 0, none⟩) 2 2) (.int .i64 y) (.int .i64 y9)
      rw [hX5] at hP ht
      unfold put3s at hX5
      rw [hX5]
      have t0 := hP.cell (i := 0) rfl
      have t1 := hP.cell (i := 1) rfl
      have t2 := hP.cell (i := 2) rfl
      refine bodyPost_ret (v := .agg #[.slice (some ⟨G, 0, none⟩) 2 2, .int .i64 y, .int .i64 y9]) (by simp [results, Tryz.results80, go_sem, t0, t1, t2]) rfl ⟨⟨[g1, g2], y, y9⟩, _, rfl, ⟨G, by omega, (HD12.out.2.2.1.turns ht (by omega)).lt, fun S w'' hS hn => ⟨_, rfl, isI_two ((HD12.out.2.2.1.turns ht (by omega)).turns hS hn)⟩⟩, by simp, by dsimp only; omega, by dsimp only; omega, HD12.out.2.2.2.1.turns ht (fun j hj => by omega), HD12.out.2.2.2.2.trans' ht (Nat.le_refl _)⟩
end Go.Proofs.YtmpoffepoafblaaGreat
