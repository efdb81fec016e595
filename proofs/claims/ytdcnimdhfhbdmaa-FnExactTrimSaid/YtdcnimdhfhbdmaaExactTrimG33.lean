/- PCq, PTd, PA2, PTe -/
import Derived.Test.YtdcnimdhfhbdmaaExactTrimG32
import Derived.Test.YtdcnimdhfhbdmaaExactTrimLPTc
import Derived.Test.YtdcnimdhfhbdmaaExactTrimG11
/- The program's copy of a part: all of it in memory of its own. -/
namespace Go.Proofs.Ytdcnimdhfhbdmaa
open Go.RowKit
set_option maxRecDepth 100000 in
set_option maxHeartbeats 16000000 in
theorem copyPart_any (x : Value) (p : Pa) (w : World) (hw : p.wt ≤ 1048577) (h : IsPart w x p) :
    Calls Try.prog 39 #[x] w fun r w' => ∃ y, r = .returned y ∧ Below w.heap.size w w' ∧ PartF (fun k => w.heap.size ≤ k ∧ k < w'.heap.size) w' y p := by
  obtain ⟨u1, u4, u5, u6, rfl, d1, d4, d5, d6⟩ := h
  obtain ⟨a1, c1, rfl, _⟩ := IsD.len d1
  obtain ⟨a4, c4, rfl, _⟩ := IsD.len d4
  obtain ⟨a5, c5, rfl, _⟩ := IsD.len d5
  obtain ⟨a6, c6, rfl, _⟩ := IsD.len d6
  have hwt : p.t.length ≤ 1048577 ∧ p.a.length ≤ 1048577 ∧ (pastsD p.p).wt ≤ 1048577 ∧ p.st.r.length ≤ 1048577 := by
    have e0 := ints_wt p.st.r
    have e1 := evs_wt p.t
    have e2 := ints_wt p.a
    unfold Pa.wt at hw
    omega
  obtain ⟨ht9, ha9, hp9, hr9⟩ := hwt
  obtain ⟨W0, hW0⟩ : ∃ W0, (w.alloc (.cells #[.int .i64 p.n, .slice a1 p.st.r.length c1, .int .i64 p.st.q, .int .i64 p.st.d, .slice a4 p.p.length c4, .slice a5 p.t.length c5, .slice a6 p.a.length c6] 36)).alloc (.cells #[.int .i64 0, .slice none 0 0, .int .i64 0, .int .i64 0, .slice none 0 0, .slice none 0 0, .slice none 0 0] 36) = W0 := ⟨_, rfl⟩
  have hz0 : W0.heap.size = w.heap.size + 1 + 1 := by rw [← hW0]; simp
  have hb0 : Below w.heap.size w W0 := hW0 ▸ ((Below.refl _ w).alloc (Nat.le_refl _) _).alloc (by simp) _
  have HBw : Hid (Below w.heap.size w W0) := hb0
  have HW0 : Hid ((w.alloc (.cells #[.int .i64 p.n, .slice a1 p.st.r.length c1, .int .i64 p.st.q, .int .i64 p.st.d, .slice a4 p.p.length c4, .slice a5 p.t.length c5, .slice a6 p.a.length c6] 36)).alloc (.cells #[.int .i64 0, .slice none 0 0, .int .i64 0, .int .i64 0, .slice none 0 0, .slice none 0 0, .slice none 0 0] 36) = W0) := hW0
  have BX : Hid (Bk W0 w.heap.size 36 #[.int .i64 p.n, .slice a1 p.st.r.length c1, .int .i64 p.st.q, .int .i64 p.st.d, .slice a4 p.p.length c4, .slice a5 p.t.length c5, .slice a6 p.a.length c6]) := hW0 ▸ (Bk.new w _ _).alloc _
  have BZ : Hid (Bk W0 (w.heap.size + 1) 36 #[.int .i64 0, .slice none 0 0, .int .i64 0, .int .i64 0, .slice none 0 0, .slice none 0 0, .slice none 0 0]) := hW0 ▸ Bk.newAt (by simp) _ _
  have D1 : Hid (IsD W0 (.slice a1 p.st.r.length c1) (intsD p.st.r)) := d1.under hb0
  have D4 : Hid (IsD W0 (.slice a4 p.p.length c4) (pastsD p.p)) := d4.under hb0
  have D5 : Hid (IsD W0 (.slice a5 p.t.length c5) (evsD p.t)) := d5.under hb0
  have D6 : Hid (IsD W0 (.slice a6 p.a.length c6) (intsD p.a)) := d6.under hb0
  have hz0' : W0.heap.size ≤ w.heap.size + 1 + 1 ∧ w.heap.size + 1 + 1 ≤ W0.heap.size := by omega
  clear hW0 hb0 d1 d4 d5 d6 hw hz0
  go_enter Try.func39, Try.ntmps39
  go_wp2_with fail
  rw [HW0.out]
  clear HW0
  have hzd : W0.drew.heap.size ≤ W0.heap.size ∧ W0.heap.size ≤ W0.drew.heap.size := ⟨Nat.le_refl _, Nat.le_refl _⟩
  have B_0 : Hid (Below W0.heap.size W0 W0.drew) := (Below.refl _ W0).drew
  have X_0 : Hid (Bk W0.drew w.heap.size 36 #[.int .i64 p.n, .slice a1 p.st.r.length c1, .int .i64 p.st.q, .int .i64 p.st.d, .slice a4 p.p.length c4, .slice a5 p.t.length c5, .slice a6 p.a.length c6]) := BX.out.drew
  have Z_0 : Hid (Bk W0.drew (w.heap.size + 1) 36 #[.int .i64 0, .slice none 0 0, .int .i64 0, .int .i64 0, .slice none 0 0, .slice none 0 0, .slice none 0 0]) := BZ.out.drew
  have D1_0 : Hid (IsD W0.drew (.slice a1 p.st.r.length c1) (intsD p.st.r)) := D1.out.under (Below.refl _ W0).drew
  have D4_0 : Hid (IsD W0.drew (.slice a4 p.p.length c4) (pastsD p.p)) := D4.out.under (Below.refl _ W0).drew
  have D5_0 : Hid (IsD W0.drew (.slice a5 p.t.length c5) (evsD p.t)) := D5.out.under (Below.refl _ W0).drew
  have D6_0 : Hid (IsD W0.drew (.slice a6 p.a.length c6) (intsD p.a)) := D6.out.under (Below.refl _ W0).drew
  have Q_0 : Hid (W0.drew.cell? ⟨w.heap.size, 0, none⟩ = some (.int .i64 p.n) ∧ W0.drew.cell? ⟨w.heap.size, 1, none⟩ = some (.slice a1 p.st.r.length c1) ∧ W0.drew.cell? ⟨w.heap.size, 2, none⟩ = some (.int .i64 p.st.q) ∧ W0.drew.cell? ⟨w.heap.size, 3, none⟩ = some (.int .i64 p.st.d) ∧ W0.drew.cell? ⟨w.heap.size, 4, none⟩ = some (.slice a4 p.p.length c4) ∧ W0.drew.cell? ⟨w.heap.size, 5, none⟩ = some (.slice a5 p.t.length c5) ∧ W0.drew.cell? ⟨w.heap.size, 6, none⟩ = some (.slice a6 p.a.length c6)) := ⟨X_0.out.cell rfl, X_0.out.cell rfl, X_0.out.cell rfl, X_0.out.cell rfl, X_0.out.cell rfl, X_0.out.cell rfl, X_0.out.cell rfl⟩
  clear BX BZ D1 D4 D5 D6
  refine wp_region_z 15 (fun W => W.cell? ⟨w.heap.size, 0, none⟩ = some (.int .i64 p.n) ∧ W.cell? ⟨w.heap.size, 1, none⟩ = some (.slice a1 p.st.r.length c1) ∧ W.cell? ⟨w.heap.size, 2, none⟩ = some (.int .i64 p.st.q) ∧ W.cell? ⟨w.heap.size, 3, none⟩ = some (.int .i64 p.st.d) ∧ W.cell? ⟨w.heap.size, 4, none⟩ = some (.slice a4 p.p.length c4) ∧ W.cell? ⟨w.heap.size, 5, none⟩ = some (.slice a5 p.t.length c5) ∧ W.cell? ⟨w.heap.size, 6, none⟩ = some (.slice a6 p.a.length c6)) (by kernel_rfl) Q_0.out (fun hHeld => ?_)
  refine wpAnyZ_take (i := 0) (oi := { dst := some 3, op := Op.fieldAddr 36 (Operand.tmp 1) 0, type := 0, pos := _, after := _, guard := none }) (v := .pointer (some ⟨w.heap.size, 0, none⟩)) 0 [] rfl (by kernel_rfl) (by kernel_rfl) (by kernel_rfl) (by kernel_rfl) (by kernel_rfl) (fun _ _ _ h => h) (Or.inl ⟨by rfl, ?_⟩) (by assumption) ?_
  · intro wX hSw
    try dsimp only at hSw
    go_simp
    try exact IntWalk.i64_in _ (by omega)
  try simp only [Act.put, List.setIfInBounds_toArray, List.set_cons_zero, List.set_cons_succ]
  refine wpAnyZ_take (i := 1) (oi := { dst := some 4, op := Op.load 3 (Operand.tmp 3), type := 3, pos := _, after := _, guard := none }) (v := .int .i64 p.n) 1 [] rfl (by kernel_rfl) (by kernel_rfl) (by kernel_rfl) (by kernel_rfl) (by kernel_rfl) (fun _ _ _ h => h) (Or.inl ⟨by rfl, ?_⟩) (by assumption) ?_
  · intro wX hSw
    try dsimp only at hSw
    go_simp
    try exact IntWalk.i64_in _ (by omega)
  try simp only [Act.put, List.setIfInBounds_toArray, List.set_cons_zero, List.set_cons_succ]
  refine wpAnyZ_take (i := 2) (oi := { dst := some 5, op := Op.fieldAddr 36 (Operand.tmp 1) 1, type := 0, pos := _, after := _, guard := none }) (v := .pointer (some ⟨w.heap.size, 1, none⟩)) 2 [] rfl (by kernel_rfl) (by kernel_rfl) (by kernel_rfl) (by kernel_rfl) (by kernel_rfl) (fun _ _ _ h => h) (Or.inl ⟨by rfl, ?_⟩) (by assumption) ?_
  · intro wX hSw
    try dsimp only at hSw
    go_simp
    try exact IntWalk.i64_in _ (by omega)
  try simp only [Act.put, List.setIfInBounds_toArray, List.set_cons_zero, List.set_cons_succ]
  refine wpAnyZ_take (i := 3) (oi := { dst := some 6, op := Op.load 32 (Operand.tmp 5), type := 32, pos := _, after := _, guard := none }) (v := .agg #[.slice a1 p.st.r.length c1, .int .i64 p.st.q, .int .i64 p.st.d]) 3 [] rfl (by kernel_rfl) (by kernel_rfl) (by kernel_rfl) (by kernel_rfl) (by kernel_rfl) (fun _ _ _ h => h) (Or.inl ⟨by rfl, ?_⟩) (by assumption) ?_
  · intro wX hSw
    try dsimp only at hSw
    go_simp
    try exact IntWalk.i64_in _ (by omega)
  try simp only [Act.put, List.setIfInBounds_toArray, List.set_cons_zero, List.set_cons_succ]
  refine wpAnyZ_take (i := 5) (oi := { dst := some 8, op := Op.fieldAddr 36 (Operand.tmp 1) 2, type := 0, pos := _, after := _, guard := none }) (v := .pointer (some ⟨w.heap.size, 4, none⟩)) 5 [] rfl (by kernel_rfl) (by kernel_rfl) (by kernel_rfl) (by kernel_rfl) (by kernel_rfl) (fun _ _ _ h => h) (Or.inl ⟨by rfl, ?_⟩) (by assumption) ?_
  · intro wX hSw
    try dsimp only at hSw
    go_simp
    try exact IntWalk.i64_in _ (by omega)
  try simp only [Act.put, List.setIfInBounds_toArray, List.set_cons_zero, List.set_cons_succ]
  refine wpAnyZ_take (i := 6) (oi := { dst := some 9, op := Op.load 33 (Operand.tmp 8), type := 33, pos := _, after := _, guard := none }) (v := .slice a4 p.p.length c4) 6 [] rfl (by kernel_rfl) (by kernel_rfl) (by kernel_rfl) (by kernel_rfl) (by kernel_rfl) (fun _ _ _ h => h) (Or.inl ⟨by rfl, ?_⟩) (by assumption) ?_
  · intro wX hSw
    try dsimp only at hSw
    go_simp
    try exact IntWalk.i64_in _ (by omega)
  try simp only [Act.put, List.setIfInBounds_toArray, List.set_cons_zero, List.set_cons_succ]
  refine wpAnyZ_take (i := 8) (oi := { dst := some 11, op := Op.fieldAddr 36 (Operand.tmp 1) 3, type := 0, pos := _, after := _, guard := none }) (v := .pointer (some ⟨w.heap.size, 5, none⟩)) 8 [] rfl (by kernel_rfl) (by kernel_rfl) (by kernel_rfl) (by kernel_rfl) (by kernel_rfl) (fun _ _ _ h => h) (Or.inl ⟨by rfl, ?_⟩) (by assumption) ?_
  · intro wX hSw
    try dsimp only at hSw
    go_simp
    try exact IntWalk.i64_in _ (by omega)
  try simp only [Act.put, List.setIfInBounds_toArray, List.set_cons_zero, List.set_cons_succ]
  refine wpAnyZ_take (i := 9) (oi := { dst := some 12, op := Op.load 34 (Operand.tmp 11), type := 34, pos := _, after := _, guard := none }) (v := .slice a5 p.t.length c5) 9 [] rfl (by kernel_rfl) (by kernel_rfl) (by kernel_rfl) (by kernel_rfl) (by kernel_rfl) (fun _ _ _ h => h) (Or.inl ⟨by rfl, ?_⟩) (by assumption) ?_
  · intro wX hSw
    try dsimp only at hSw
    go_simp
    try exact IntWalk.i64_in _ (by omega)
  try simp only [Act.put, List.setIfInBounds_toArray, List.set_cons_zero, List.set_cons_succ]
  refine wpAnyZ_take (i := 11) (oi := { dst := some 14, op := Op.fieldAddr 36 (Operand.tmp 1) 4, type := 0, pos := _, after := _, guard := none }) (v := .pointer (some ⟨w.heap.size, 6, none⟩)) 11 [] rfl (by kernel_rfl) (by kernel_rfl) (by kernel_rfl) (by kernel_rfl) (by kernel_rfl) (fun _ _ _ h => h) (Or.inl ⟨by rfl, ?_⟩) (by assumption) ?_
  · intro wX hSw
    try dsimp only at hSw
    go_simp
    try exact IntWalk.i64_in _ (by omega)
  try simp only [Act.put, List.setIfInBounds_toArray, List.set_cons_zero, List.set_cons_succ]
  refine wpAnyZ_take (i := 12) (oi := { dst := some 15, op := Op.load 22 (Operand.tmp 14), type := 22, pos := _, after := _, guard := none }) (v := .slice a6 p.a.length c6) 12 [] rfl (by kernel_rfl) (by kernel_rfl) (by kernel_rfl) (by kernel_rfl) (by kernel_rfl) (fun _ _ _ h => h) (Or.inl ⟨by rfl, ?_⟩) (by assumption) ?_
  · intro wX hSw
    try dsimp only at hSw
    go_simp
    try exact IntWalk.i64_in _ (by omega)
  try simp only [Act.put, List.setIfInBounds_toArray, List.set_cons_zero, List.set_cons_succ]
  refine wpAnyZ_ready (rs := [4]) (by kernel_rfl) (by simp) ?_
  refine AllReadyZ.cons (o := { dst := some 7, op := Op.call { callee := Callee.value (Operand.func 70), args := #[Operand.tmp 6], argTypes := #[32] }, type := 32, pos := _, after := _, guard := none }) rfl (fun K hK => ?_) AllReadyZ.nil
  have hbs1 : W0.heap.size ≤ W0.drew.heap.size := B_0.out.size
  go_simp
  refine (snap_src _ _ p.st W0.drew hr9 rfl D1_0.out).mono ?_
  rintro e w1 ⟨vs1, rfl, hown, hb⟩
  obtain ⟨as1, cs1, hvs⟩ := owns_slice hown
  subst hvs
  have HLS : Hid (∀ k', (.slice as1 p.st.r.length cs1 : Value).ownBlock = some k' → W0.drew.heap.size ≤ k' ∧ k' < w1.heap.size) := row_lim hown
  have hz1 : W0.drew.heap.size ≤ w1.heap.size := hb.size
  have B_2 : Hid (Below W0.heap.size W0 w1) := B_0.out.trans (hb.mono B_0.out.size)
  have X_2 : Hid (Bk w1 w.heap.size 36 #[.int .i64 p.n, .slice a1 p.st.r.length c1, .int .i64 p.st.q, .int .i64 p.st.d, .slice a4 p.p.length c4, .slice a5 p.t.length c5, .slice a6 p.a.length c6]) := X_0.out.below hb
  have Z_2 : Hid (Bk w1 (w.heap.size + 1) 36 #[.int .i64 0, .slice none 0 0, .int .i64 0, .int .i64 0, .slice none 0 0, .slice none 0 0, .slice none 0 0]) := Z_0.out.below hb
  have D4_2 : Hid (IsD w1 (.slice a4 p.p.length c4) (pastsD p.p)) := D4_0.out.under hb
  have D5_2 : Hid (IsD w1 (.slice a5 p.t.length c5) (evsD p.t)) := D5_0.out.under hb
  have D6_2 : Hid (IsD w1 (.slice a6 p.a.length c6) (intsD p.a)) := D6_0.out.under hb
  clear B_0 X_0 Z_0 D1_0 D4_0 D5_0 D6_0
  have S_2 : Hid (w1.ownsRow W0.heap.size 3 1 (.slice as1 p.st.r.length cs1) p.st.r.length (intCells p.st.r)) := owns_mono hown hbs1
  clear hown hb
  have Q_2 : Hid (w1.cell? ⟨w.heap.size, 0, none⟩ = some (.int .i64 p.n) ∧ w1.cell? ⟨w.heap.size, 1, none⟩ = some (.slice a1 p.st.r.length c1) ∧ w1.cell? ⟨w.heap.size, 2, none⟩ = some (.int .i64 p.st.q) ∧ w1.cell? ⟨w.heap.size, 3, none⟩ = some (.int .i64 p.st.d) ∧ w1.cell? ⟨w.heap.size, 4, none⟩ = some (.slice a4 p.p.length c4) ∧ w1.cell? ⟨w.heap.size, 5, none⟩ = some (.slice a5 p.t.length c5) ∧ w1.cell? ⟨w.heap.size, 6, none⟩ = some (.slice a6 p.a.length c6)) := ⟨X_2.out.cell rfl, X_2.out.cell rfl, X_2.out.cell rfl, X_2.out.cell rfl, X_2.out.cell rfl, X_2.out.cell rfl, X_2.out.cell rfl⟩
  refine hK.out _ _ Q_2.out (fun hHeld => ?_)
  clear hK K
  try simp only [Act.put, List.setIfInBounds_toArray, List.set_cons_zero, List.set_cons_succ]
  refine wpAnyZ_ready (rs := [7]) (by kernel_rfl) (by simp) ?_
  refine AllReadyZ.cons (o := { dst := some 10, op := Op.call { callee := Callee.value (Operand.func 38), args := #[Operand.tmp 9], argTypes := #[33] }, type := 33, pos := _, after := _, guard := none }) rfl (fun K hK => ?_) AllReadyZ.nil
  have hbs3 : W0.heap.size ≤ w1.heap.size := B_2.out.size
  go_simp
  refine (copyPasts_any _ p.p w1 hp9 D4_2.out).mono ?_
  rintro e w3 ⟨vs1, rfl, hb, hown⟩
  obtain ⟨ap1, cp1, hvs, _⟩ := OwnD.parts (c := 12) (n := p.p.length) hown
  subst hvs
  have hz3 : w1.heap.size ≤ w3.heap.size := hb.size
  have B_4 : Hid (Below W0.heap.size W0 w3) := B_2.out.trans (hb.mono B_2.out.size)
  have X_4 : Hid (Bk w3 w.heap.size 36 #[.int .i64 p.n, .slice a1 p.st.r.length c1, .int .i64 p.st.q, .int .i64 p.st.d, .slice a4 p.p.length c4, .slice a5 p.t.length c5, .slice a6 p.a.length c6]) := X_2.out.below hb
  have Z_4 : Hid (Bk w3 (w.heap.size + 1) 36 #[.int .i64 0, .slice none 0 0, .int .i64 0, .int .i64 0, .slice none 0 0, .slice none 0 0, .slice none 0 0]) := Z_2.out.below hb
  have D5_4 : Hid (IsD w3 (.slice a5 p.t.length c5) (evsD p.t)) := D5_2.out.under hb
  have D6_4 : Hid (IsD w3 (.slice a6 p.a.length c6) (intsD p.a)) := D6_2.out.under hb
  have S_4 : Hid (w3.ownsRow W0.heap.size 3 1 (.slice as1 p.st.r.length cs1) p.st.r.length (intCells p.st.r)) := owns_turns S_2.out (Turns.of_below hb) (fun _ _ => id)
  clear B_2 X_2 Z_2 D4_2 D5_2 D6_2 S_2
  have P_4 : Hid (OwnD w3 (fun k => w1.heap.size ≤ k ∧ k < w3.heap.size) (.slice ap1 p.p.length cp1) (pastsD p.p)) := hown
  clear hown hb
  have Q_4 : Hid (w3.cell? ⟨w.heap.size, 0, none⟩ = some (.int .i64 p.n) ∧ w3.cell? ⟨w.heap.size, 1, none⟩ = some (.slice a1 p.st.r.length c1) ∧ w3.cell? ⟨w.heap.size, 2, none⟩ = some (.int .i64 p.st.q) ∧ w3.cell? ⟨w.heap.size, 3, none⟩ = some (.int .i64 p.st.d) ∧ w3.cell? ⟨w.heap.size, 4, none⟩ = some (.slice a4 p.p.length c4) ∧ w3.cell? ⟨w.heap.size, 5, none⟩ = some (.slice a5 p.t.length c5) ∧ w3.cell? ⟨w.heap.size, 6, none⟩ = some (.slice a6 p.a.length c6)) := ⟨X_4.out.cell rfl, X_4.out.cell rfl, X_4.out.cell rfl, X_4.out.cell rfl, X_4.out.cell rfl, X_4.out.cell rfl, X_4.out.cell rfl⟩
  refine hK.out _ _ Q_4.out (fun hHeld => ?_)
  clear hK K
  try simp only [Act.put, List.setIfInBounds_toArray, List.set_cons_zero, List.set_cons_succ]
  refine wpAnyZ_ready (rs := [10]) (by kernel_rfl) (by simp) ?_
  refine AllReadyZ.cons (o := { dst := some 13, op := Op.call { callee := Callee.value (Operand.func 71), args := #[Operand.tmp 12], argTypes := #[34] }, type := 34, pos := _, after := _, guard := none }) rfl (fun K hK => ?_) AllReadyZ.nil
  have hbs5 : W0.heap.size ≤ w3.heap.size := B_4.out.size
  go_simp
  refine (copyEv_src _ p.t w3 ht9 D5_4.out.srcEv).mono ?_
  rintro e w5 ⟨vs1, rfl, hown, hb⟩
  obtain ⟨at1, ct1, hvs⟩ := owns_slice hown
  subst hvs
  have HLT : Hid (∀ k', (.slice at1 p.t.length ct1 : Value).ownBlock = some k' → w3.heap.size ≤ k' ∧ k' < w5.heap.size) := row_lim hown
  have hz5 : w3.heap.size ≤ w5.heap.size := hb.size
  have B_6 : Hid (Below W0.heap.size W0 w5) := B_4.out.trans (hb.mono B_4.out.size)
  have X_6 : Hid (Bk w5 w.heap.size 36 #[.int .i64 p.n, .slice a1 p.st.r.length c1, .int .i64 p.st.q, .int .i64 p.st.d, .slice a4 p.p.length c4, .slice a5 p.t.length c5, .slice a6 p.a.length c6]) := X_4.out.below hb
  have Z_6 : Hid (Bk w5 (w.heap.size + 1) 36 #[.int .i64 0, .slice none 0 0, .int .i64 0, .int .i64 0, .slice none 0 0, .slice none 0 0, .slice none 0 0]) := Z_4.out.below hb
  have D6_6 : Hid (IsD w5 (.slice a6 p.a.length c6) (intsD p.a)) := D6_4.out.under hb
  have S_6 : Hid (w5.ownsRow W0.heap.size 3 1 (.slice as1 p.st.r.length cs1) p.st.r.length (intCells p.st.r)) := owns_turns S_4.out (Turns.of_below hb) (fun _ _ => id)
  have P_6 : Hid (OwnD w5 (fun k => w1.heap.size ≤ k ∧ k < w3.heap.size) (.slice ap1 p.p.length cp1) (pastsD p.p)) := P_4.out.under hb
  clear B_4 X_4 Z_4 D5_4 D6_4 S_4 P_4
  have T_6 : Hid (w5.ownsRow W0.heap.size 40 7 (.slice at1 p.t.length ct1) p.t.length (cellsL p.t)) := owns_mono hown hbs5
  clear hown hb
  have Q_6 : Hid (w5.cell? ⟨w.heap.size, 0, none⟩ = some (.int .i64 p.n) ∧ w5.cell? ⟨w.heap.size, 1, none⟩ = some (.slice a1 p.st.r.length c1) ∧ w5.cell? ⟨w.heap.size, 2, none⟩ = some (.int .i64 p.st.q) ∧ w5.cell? ⟨w.heap.size, 3, none⟩ = some (.int .i64 p.st.d) ∧ w5.cell? ⟨w.heap.size, 4, none⟩ = some (.slice a4 p.p.length c4) ∧ w5.cell? ⟨w.heap.size, 5, none⟩ = some (.slice a5 p.t.length c5) ∧ w5.cell? ⟨w.heap.size, 6, none⟩ = some (.slice a6 p.a.length c6)) := ⟨X_6.out.cell rfl, X_6.out.cell rfl, X_6.out.cell rfl, X_6.out.cell rfl, X_6.out.cell rfl, X_6.out.cell rfl, X_6.out.cell rfl⟩
  refine hK.out _ _ Q_6.out (fun hHeld => ?_)
  clear hK K
  try simp only [Act.put, List.setIfInBounds_toArray, List.set_cons_zero, List.set_cons_succ]
  refine wpAnyZ_ready (rs := [13]) (by kernel_rfl) (by simp) ?_
  refine AllReadyZ.cons (o := { dst := some 16, op := Op.call { callee := Callee.value (Operand.func 73), args := #[Operand.tmp 15], argTypes := #[22] }, type := 22, pos := _, after := _, guard := none }) rfl (fun K hK => ?_) AllReadyZ.nil
  have hbs7 : W0.heap.size ≤ w5.heap.size := B_6.out.size
  go_simp
  refine (copyI_src _ p.a w5 ha9 D6_6.out.srcI).mono ?_
  rintro e w7 ⟨vs1, rfl, hown, hb⟩
  obtain ⟨aa1, ca1, hvs⟩ := owns_slice hown
  subst hvs
  have HLA : Hid (∀ k', (.slice aa1 p.a.length ca1 : Value).ownBlock = some k' → w5.heap.size ≤ k' ∧ k' < w7.heap.size) := row_lim hown
  have hz7 : w5.heap.size ≤ w7.heap.size := hb.size
  have B_8 : Hid (Below W0.heap.size W0 w7) := B_6.out.trans (hb.mono B_6.out.size)
  have X_8 : Hid (Bk w7 w.heap.size 36 #[.int .i64 p.n, .slice a1 p.st.r.length c1, .int .i64 p.st.q, .int .i64 p.st.d, .slice a4 p.p.length c4, .slice a5 p.t.length c5, .slice a6 p.a.length c6]) := X_6.out.below hb
  have Z_8 : Hid (Bk w7 (w.heap.size + 1) 36 #[.int .i64 0, .slice none 0 0, .int .i64 0, .int .i64 0, .slice none 0 0, .slice none 0 0, .slice none 0 0]) := Z_6.out.below hb
  have S_8 : Hid (w7.ownsRow W0.heap.size 3 1 (.slice as1 p.st.r.length cs1) p.st.r.length (intCells p.st.r)) := owns_turns S_6.out (Turns.of_below hb) (fun _ _ => id)
  have P_8 : Hid (OwnD w7 (fun k => w1.heap.size ≤ k ∧ k < w3.heap.size) (.slice ap1 p.p.length cp1) (pastsD p.p)) := P_6.out.under hb
  have T_8 : Hid (w7.ownsRow W0.heap.size 40 7 (.slice at1 p.t.length ct1) p.t.length (cellsL p.t)) := owns_turns T_6.out (Turns.of_below hb) (fun _ _ => id)
  clear B_6 X_6 Z_6 D6_6 S_6 P_6 T_6
  have A_8 : Hid (w7.ownsRow W0.heap.size 3 1 (.slice aa1 p.a.length ca1) p.a.length (intCells p.a)) := owns_mono hown hbs7
  clear hown hb
  have Q_8 : Hid (w7.cell? ⟨w.heap.size, 0, none⟩ = some (.int .i64 p.n) ∧ w7.cell? ⟨w.heap.size, 1, none⟩ = some (.slice a1 p.st.r.length c1) ∧ w7.cell? ⟨w.heap.size, 2, none⟩ = some (.int .i64 p.st.q) ∧ w7.cell? ⟨w.heap.size, 3, none⟩ = some (.int .i64 p.st.d) ∧ w7.cell? ⟨w.heap.size, 4, none⟩ = some (.slice a4 p.p.length c4) ∧ w7.cell? ⟨w.heap.size, 5, none⟩ = some (.slice a5 p.t.length c5) ∧ w7.cell? ⟨w.heap.size, 6, none⟩ = some (.slice a6 p.a.length c6)) := ⟨X_8.out.cell rfl, X_8.out.cell rfl, X_8.out.cell rfl, X_8.out.cell rfl, X_8.out.cell rfl, X_8.out.cell rfl, X_8.out.cell rfl⟩
  refine hK.out _ _ Q_8.out (fun hHeld => ?_)
  clear hK K
  try simp only [Act.put, List.setIfInBounds_toArray, List.set_cons_zero, List.set_cons_succ]
  refine wpAnyZ_take (i := 14) (oi := { dst := some 17, op := Op.build 36 #[(0, Operand.tmp 4), (1, Operand.tmp 7), (2, Operand.tmp 10), (3, Operand.tmp 13), (4, Operand.tmp 16)], type := 36, pos := _, after := _, guard := none }) (v := .agg #[.int .i64 p.n, .slice as1 p.st.r.length cs1, .int .i64 p.st.q, .int .i64 p.st.d, .slice ap1 p.p.length cp1, .slice at1 p.t.length ct1, .slice aa1 p.a.length ca1]) 14 [] rfl (by kernel_rfl) (by kernel_rfl) (by kernel_rfl) (by kernel_rfl) (by kernel_rfl) (fun _ _ _ h => h) (Or.inl ⟨by rfl, ?_⟩) (by assumption) ?_
  · intro wX hSw
    try dsimp only at hSw
    go_simp
    try exact IntWalk.i64_in _ (by omega)
  try simp only [Act.put, List.setIfInBounds_toArray, List.set_cons_zero, List.set_cons_succ]
  refine wpAnyZ_ready (rs := [15]) (by kernel_rfl) (by simp) ?_
  refine AllReadyZ.last (o := { dst := none, op := Op.store 36 (Operand.tmp 2) (Operand.tmp 17), type := 0, pos := _, after := _, guard := none }) rfl (fun K hK => ?_)
  have q0 := Z_8.out.cell (i := 0) rfl
  have q1 := Z_8.out.cell (i := 1) rfl
  have q2 := Z_8.out.cell (i := 2) rfl
  have q3 := Z_8.out.cell (i := 3) rfl
  have q4 := Z_8.out.cell (i := 4) rfl
  have q5 := Z_8.out.cell (i := 5) rfl
  have q6 := Z_8.out.cell (i := 6) rfl
  have qf := Z_8.out.free
  go_simp
  clear qf q0 q1 q2 q3 q4 q5 q6
  refine hK.out _ _ ?_
  clear hK K
  try simp only [Act.put, List.setIfInBounds_toArray, List.set_cons_zero, List.set_cons_succ]
  refine wpAnyZ_done (by kernel_rfl) ?_ _
  obtain ⟨X5, hX5⟩ : ∃ X5, put7s w7 (w.heap.size + 1) (.int .i64 p.n) (.slice as1 p.st.r.length cs1) (.int .i64 p.st.q) (.int .i64 p.st.d) (.slice ap1 p.p.length cp1) (.slice at1 p.t.length ct1) (.slice aa1 p.a.length ca1) = X5 := ⟨_, rfl⟩
  have hP := Z_8.out.put7s (.int .i64 p.n) (.slice as1 p.st.r.length cs1) (.int .i64 p.st.q) (.int .i64 p.st.d) (.slice ap1 p.p.length cp1) (.slice at1 p.t.length ct1) (.slice aa1 p.a.length ca1)
  have ht := put7s_turns w7 (w.heap.size + 1) (.int .i64 p.n) (.slice as1 p.st.r.length cs1) (.int .i64 p.st.q) (.int .i64 p.st.d) (.slice ap1 p.p.length cp1) (.slice at1 p.t.length ct1) (.slice aa1 p.a.length ca1)
  rw [hX5] at hP ht
  unfold put7s at hX5
  rw [hX5]
  clear hX5
  go_wp2
  have t0 := hP.cell (i := 0) rfl
  have t1 := hP.cell (i := 1) rfl
  have t2 := hP.cell (i := 2) rfl
  have t3 := hP.cell (i := 3) rfl
  have t4 := hP.cell (i := 4) rfl
  have t5 := hP.cell (i := 5) rfl
  have t6 := hP.cell (i := 6) rfl
  refine bodyPost_ret (v := .agg #[.int .i64 p.n, .slice as1 p.st.r.length cs1, .int .i64 p.st.q, .int .i64 p.st.d, .slice ap1 p.p.length cp1, .slice at1 p.t.length ct1, .slice aa1 p.a.length ca1]) (by simp [results, Try.results39, go_sem, t0, t1, t2, t3, t4, t5, t6]) rfl ?_
  have hBs := B_8.out.size
  have hts := ht.size
  refine ⟨_, rfl, (HBw.out.trans (B_8.out.mono (by omega))).trans (ht.to_below (fun k e => by omega) (by omega)), (fun b => (.slice as1 p.st.r.length cs1 : Value).ownBlock = some b), (fun k => w1.heap.size ≤ k ∧ k < w3.heap.size), (fun b => (.slice at1 p.t.length ct1 : Value).ownBlock = some b), (fun b => (.slice aa1 p.a.length ca1 : Value).ownBlock = some b), _, _, _, _, rfl, ?_, ?_, ?_, ?_, ?_, ?_, ?_, ?_⟩
  · exact (own_rowF (by rw [intCells_length]; omega) (owns_turns S_8.out ht (fun b hb e => by have := HLS.out b hb; omega))).own
  · exact P_8.out.turns ht (fun b hb e => by omega)
  · exact (own_rowF (cellsL_length _) (owns_turns T_8.out ht (fun b hb e => by have := HLT.out b hb; omega))).own
  · exact (own_rowF (by rw [intCells_length]; omega) (owns_turns A_8.out ht (fun b hb e => by have := HLA.out b hb; omega))).own
  · exact fun b hb => ⟨by have := HLS.out b hb; omega, fun e => by have := HLS.out b hb; omega, fun e => by have := HLS.out b hb; have := HLT.out b e; omega, fun e => by have := HLS.out b hb; have := HLA.out b e; omega⟩
  · exact fun b hb => ⟨by omega, fun e => by have := HLT.out b e; omega, fun e => by have := HLA.out b e; omega⟩
  · exact fun b hb => ⟨by have := HLT.out b hb; omega, fun e => by have := HLT.out b hb; have := HLA.out b e; omega⟩
  · exact fun b hb => by have := HLA.out b hb; omega
end Go.Proofs.Ytdcnimdhfhbdmaa

/- The program's Trim. -/
namespace Go.Proofs.Ytdcnimdhfhbdmaa
open Go.RowKit
theorem ecmp_of' {a b : Ev} (ha : a.ok = true) (hb : b.ok = true) : a.ecmp b = a.cmp b := by
  unfold Ev.ecmp ecmp Ev.cmp
  rw [if_pos ⟨ha, hb⟩]
theorem found_cut {p : Pa} {e : Ev} (hp : p.ok = true) (he : e.ok = true) {i : Nat} (h1 : i ≤ p.p.length) (h2 : i = 0 ∨ (psAt p.p (i - 1)).e.ecmp e < 0) (h3 : i < p.p.length → ¬ (psAt p.p i).e.ecmp e < 0) : CutAt p.p e i := by
  have hS := (good_iff p).2 (by unfold Pa.ok at hp; simpa using hp)
  have hok : ∀ j, j < p.p.length → (psAt p.p j).e.ok = true := fun j hj => (hS.2.1 j hj).1
  have hlt : ∀ j, j < p.p.length → 0 < j → (psAt p.p (j - 1)).e.cmp (psAt p.p j).e < 0 := fun j hj h => (hS.2.1 j hj).2.2.2.2.2.2 h
  refine ⟨h1, fun j hj => ?_, fun hi => by rw [← ecmp_of' (hok i hi) he]; exact h3 hi⟩
  have hlast : (psAt p.p (i - 1)).e.cmp e < 0 := by
    rw [← ecmp_of' (hok (i - 1) (by omega)) he]
    exact h2.resolve_left (by omega)
  have down : ∀ d, d ≤ i - 1 → (psAt p.p (i - 1 - d)).e.cmp e < 0 := fun d => by
    induction d with
    | zero => exact fun _ => hlast
    | succ d ih =>
      intro hd
      have := hlt (i - 1 - d) (by omega) (by omega)
      rw [show i - 1 - d - 1 = i - 1 - (d + 1) by omega] at this
      exact cmp_trans this (ih (by omega))
  have := down (i - 1 - j) (by omega)
  rwa [show i - 1 - (i - 1 - j) = j by omega] at this
set_option maxRecDepth 100000 in
set_option maxHeartbeats 16000000 in
theorem iTrim (x : Value) (p : Pa) (e : Ev) (w : World) (hw : p.wt ≤ 1048576) (h : IsPart w x p) :
    Calls Try.prog 9 #[x, .agg #[.int .i64 e.t, .int .i64 e.s, .int .i64 e.q, .int .i64 e.d, .int .i64 e.k, .int .i64 e.v, .int .i64 e.g]] w fun r w' => TrimAns w w' r (trimA p e) (trimB p e) := by
  have HI : Hid (IsPart w x p) := h
  have HWT : Hid (p.wt ≤ 1048576) := hw
  obtain ⟨u1, u4, u5, u6, rfl, d1, d4, d5, d6⟩ := h
  obtain ⟨a1, c1, rfl, _⟩ := IsD.len d1
  obtain ⟨a4, c4, rfl, hn4, _⟩ := IsD.parts (c := 12) (n := p.p.length) d4
  obtain ⟨a5, c5, rfl, _⟩ := IsD.len d5
  obtain ⟨a6, c6, rfl, _⟩ := IsD.len d6
  have O1 : Hid (IsD w (.slice a1 p.st.r.length c1) (intsD p.st.r)) := d1
  have O4 : Hid (IsD w (.slice a4 p.p.length c4) (pastsD p.p)) := d4
  have O5 : Hid (IsD w (.slice a5 p.t.length c5) (evsD p.t)) := d5
  have O6 : Hid (IsD w (.slice a6 p.a.length c6) (intsD p.a)) := d6
  have hp9 : p.p.length ≤ 1048577 := by
    have e3 := pastsD_wt p.p
    unfold Pa.wt at hw
    omega
  obtain ⟨W0, hW0⟩ : ∃ W0, ((w.alloc (.cells #[.int .i64 p.n, .slice a1 p.st.r.length c1, .int .i64 p.st.q, .int .i64 p.st.d, .slice a4 p.p.length c4, .slice a5 p.t.length c5, .slice a6 p.a.length c6] 36)).alloc (.cells #[.int .i64 e.t, .int .i64 e.s, .int .i64 e.q, .int .i64 e.d, .int .i64 e.k, .int .i64 e.v, .int .i64 e.g] 40)).alloc (.cells #[.int .i64 0, .slice none 0 0, .int .i64 0, .int .i64 0, .slice none 0 0, .slice none 0 0, .slice none 0 0] 36) = W0 := ⟨_, rfl⟩
  have hz0 : W0.heap.size = w.heap.size + 1 + 1 + 1 := by rw [← hW0]; simp
  have hb0 : Below w.heap.size w W0 := hW0 ▸ (((Below.refl _ w).alloc (Nat.le_refl _) _).alloc (by simp) _).alloc (by simp; omega) _
  have HB0 : Hid (Below w.heap.size w W0) := hb0
  have BX : Hid (Bk W0 w.heap.size 36 #[.int .i64 p.n, .slice a1 p.st.r.length c1, .int .i64 p.st.q, .int .i64 p.st.d, .slice a4 p.p.length c4, .slice a5 p.t.length c5, .slice a6 p.a.length c6]) := hW0 ▸ ((Bk.new w _ _).alloc _).alloc _
  have BE : Hid (Bk W0 (w.heap.size + 1) 40 #[.int .i64 e.t, .int .i64 e.s, .int .i64 e.q, .int .i64 e.d, .int .i64 e.k, .int .i64 e.v, .int .i64 e.g]) := hW0 ▸ (Bk.newAt (by simp) _ _).alloc _
  have BZ : Hid (Bk W0 (w.heap.size + 1 + 1) 36 #[.int .i64 0, .slice none 0 0, .int .i64 0, .int .i64 0, .slice none 0 0, .slice none 0 0, .slice none 0 0]) := hW0 ▸ Bk.newAt (by simp) _ _
  have hz0' : W0.heap.size ≤ w.heap.size + 1 + 1 + 1 ∧ w.heap.size + 1 + 1 + 1 ≤ W0.heap.size := by omega
  clear hb0 d1 d4 d5 d6 hw hz0
  have x0 := BX.out.cell (i := 0) rfl
  have x1 := BX.out.cell (i := 1) rfl
  have x2 := BX.out.cell (i := 2) rfl
  have x3 := BX.out.cell (i := 3) rfl
  have x4 := BX.out.cell (i := 4) rfl
  have x5 := BX.out.cell (i := 5) rfl
  have x6 := BX.out.cell (i := 6) rfl
  go_enter Try.func9, Try.ntmps9
  go_wp2_with fail
  clear hW0 x0 x1 x2 x3 x4 x5 x6
  refine (iPartOk_is _ p _ HWT.out (HI.out.under HB0.out)).mono ?_
  rintro r w1 ⟨rfl, hb⟩
  have HB1 : Hid (Below w.heap.size w w1) := HB0.out.trans (hb.mono HB0.out.size)
  have hs1 : W0.heap.size ≤ w1.heap.size := hb.size
  have X1 : Hid (Bk w1 w.heap.size 36 #[.int .i64 p.n, .slice a1 p.st.r.length c1, .int .i64 p.st.q, .int .i64 p.st.d, .slice a4 p.p.length c4, .slice a5 p.t.length c5, .slice a6 p.a.length c6]) := BX.out.below hb
  have E1 : Hid (Bk w1 (w.heap.size + 1) 40 #[.int .i64 e.t, .int .i64 e.s, .int .i64 e.q, .int .i64 e.d, .int .i64 e.k, .int .i64 e.v, .int .i64 e.g]) := BE.out.below hb
  have Z1 : Hid (Bk w1 (w.heap.size + 1 + 1) 36 #[.int .i64 0, .slice none 0 0, .int .i64 0, .int .i64 0, .slice none 0 0, .slice none 0 0, .slice none 0 0]) := BZ.out.below hb
  clear hb BX BE BZ
  cases hok : p.ok
  case false =>
    have HOK : Hid (p.ok = false) := hok
    have ZN := Z1
    have BN := HB1
    clear hok
    have z0 := ZN.out.cell (i := 0) rfl
    have z1 := ZN.out.cell (i := 1) rfl
    have z2 := ZN.out.cell (i := 2) rfl
    have z3 := ZN.out.cell (i := 3) rfl
    have z4 := ZN.out.cell (i := 4) rfl
    have z5 := ZN.out.cell (i := 5) rfl
    have z6 := ZN.out.cell (i := 6) rfl
    have zf := ZN.out.free
    obtain ⟨X5, hX5⟩ : ∃ X5, put7s w1 (w.heap.size + 1 + 1) (.int .i64 0) (.slice none 0 0) (.int .i64 0) (.int .i64 0) (.slice none 0 0) (.slice none 0 0) (.slice none 0 0) = X5 := ⟨_, rfl⟩
    have hP := ZN.out.put7s (.int .i64 0) (.slice none 0 0) (.int .i64 0) (.int .i64 0) (.slice none 0 0) (.slice none 0 0) (.slice none 0 0)
    have ht := put7s_turns w1 (w.heap.size + 1 + 1) (.int .i64 0) (.slice none 0 0) (.int .i64 0) (.int .i64 0) (.slice none 0 0) (.slice none 0 0) (.slice none 0 0)
    rw [hX5] at hP ht
    unfold put7s at hX5
    have HX5 : Hid _ := hX5
    have HP5 : Hid (Bk X5 (w.heap.size + 1 + 1) 36 #[.int .i64 0, .slice none 0 0, .int .i64 0, .int .i64 0, .slice none 0 0, .slice none 0 0, .slice none 0 0]) := hP
    have HT5 : Hid (Turns (fun b => b = (w.heap.size + 1 + 1)) w1 X5) := ht
    clear hX5 hP ht
    go_wp2
    try rw [HX5.out]
    have t0 := HP5.out.cell (i := 0) rfl
    have t1 := HP5.out.cell (i := 1) rfl
    have t2 := HP5.out.cell (i := 2) rfl
    have t3 := HP5.out.cell (i := 3) rfl
    have t4 := HP5.out.cell (i := 4) rfl
    have t5 := HP5.out.cell (i := 5) rfl
    have t6 := HP5.out.cell (i := 6) rfl
    refine bodyPost_ret (v := .tuple #[.agg #[.int .i64 0, .slice none 0 0, .int .i64 0, .int .i64 0, .slice none 0 0, .slice none 0 0, .slice none 0 0], .slice none 0 0]) (by simp [results, Try.results9, go_sem, t0, t1, t2, t3, t4, t5, t6]) rfl ?_
    have hA : trimA p e = Pa.none ∧ trimB p e = [] := by unfold trimA trimB; rw [HOK.out]; exact ⟨rfl, rfl⟩
    rw [hA.1, hA.2]
    exact ⟨_, .slice none 0 0, fun _ => False, fun _ => False, rfl, none_partF _ _, .nil _ _ _ _ _ (Nat.zero_le _), fun _ h => h.elim, fun _ h => h.elim, BN.out.trans (HT5.out.to_below (fun b e => by omega) BN.out.size)⟩
  have HOK : Hid (p.ok = true) := hok
  clear hok
  have e0 := E1.out.cell (i := 0) rfl
  have e1 := E1.out.cell (i := 1) rfl
  have e2 := E1.out.cell (i := 2) rfl
  have e3 := E1.out.cell (i := 3) rfl
  have e4 := E1.out.cell (i := 4) rfl
  have e5 := E1.out.cell (i := 5) rfl
  have e6 := E1.out.cell (i := 6) rfl
  go_wp2_with fail
  clear e0 e1 e2 e3 e4 e5 e6
  refine (iOk_ev e e.ok rfl _).mono ?_
  rintro r w2 ⟨rfl, hb⟩
  have HB2 : Hid (Below w.heap.size w w2) := HB1.out.trans (hb.mono HB1.out.size)
  have hs2 : w1.heap.size ≤ w2.heap.size := hb.size
  have X2 : Hid (Bk w2 w.heap.size 36 #[.int .i64 p.n, .slice a1 p.st.r.length c1, .int .i64 p.st.q, .int .i64 p.st.d, .slice a4 p.p.length c4, .slice a5 p.t.length c5, .slice a6 p.a.length c6]) := X1.out.below hb
  have E2 : Hid (Bk w2 (w.heap.size + 1) 40 #[.int .i64 e.t, .int .i64 e.s, .int .i64 e.q, .int .i64 e.d, .int .i64 e.k, .int .i64 e.v, .int .i64 e.g]) := E1.out.below hb
  have Z2 : Hid (Bk w2 (w.heap.size + 1 + 1) 36 #[.int .i64 0, .slice none 0 0, .int .i64 0, .int .i64 0, .slice none 0 0, .slice none 0 0, .slice none 0 0]) := Z1.out.below hb
  clear hb X1 E1 Z1
  cases hev : e.ok
  case false =>
    have HEV : Hid (e.ok = false) := hev
    have ZN := Z2
    have BN := HB2
    clear hev
    have z0 := ZN.out.cell (i := 0) rfl
    have z1 := ZN.out.cell (i := 1) rfl
    have z2 := ZN.out.cell (i := 2) rfl
    have z3 := ZN.out.cell (i := 3) rfl
    have z4 := ZN.out.cell (i := 4) rfl
    have z5 := ZN.out.cell (i := 5) rfl
    have z6 := ZN.out.cell (i := 6) rfl
    have zf := ZN.out.free
    obtain ⟨X5, hX5⟩ : ∃ X5, put7s w2 (w.heap.size + 1 + 1) (.int .i64 0) (.slice none 0 0) (.int .i64 0) (.int .i64 0) (.slice none 0 0) (.slice none 0 0) (.slice none 0 0) = X5 := ⟨_, rfl⟩
    have hP := ZN.out.put7s (.int .i64 0) (.slice none 0 0) (.int .i64 0) (.int .i64 0) (.slice none 0 0) (.slice none 0 0) (.slice none 0 0)
    have ht := put7s_turns w2 (w.heap.size + 1 + 1) (.int .i64 0) (.slice none 0 0) (.int .i64 0) (.int .i64 0) (.slice none 0 0) (.slice none 0 0) (.slice none 0 0)
    rw [hX5] at hP ht
    unfold put7s at hX5
    have HX5 : Hid _ := hX5
    have HP5 : Hid (Bk X5 (w.heap.size + 1 + 1) 36 #[.int .i64 0, .slice none 0 0, .int .i64 0, .int .i64 0, .slice none 0 0, .slice none 0 0, .slice none 0 0]) := hP
    have HT5 : Hid (Turns (fun b => b = (w.heap.size + 1 + 1)) w2 X5) := ht
    clear hX5 hP ht
    go_wp2
    try rw [HX5.out]
    have t0 := HP5.out.cell (i := 0) rfl
    have t1 := HP5.out.cell (i := 1) rfl
    have t2 := HP5.out.cell (i := 2) rfl
    have t3 := HP5.out.cell (i := 3) rfl
    have t4 := HP5.out.cell (i := 4) rfl
    have t5 := HP5.out.cell (i := 5) rfl
    have t6 := HP5.out.cell (i := 6) rfl
    refine bodyPost_ret (v := .tuple #[.agg #[.int .i64 0, .slice none 0 0, .int .i64 0, .int .i64 0, .slice none 0 0, .slice none 0 0, .slice none 0 0], .slice none 0 0]) (by simp [results, Try.results9, go_sem, t0, t1, t2, t3, t4, t5, t6]) rfl ?_
    have hA : trimA p e = Pa.none ∧ trimB p e = [] := by unfold trimA trimB; rw [HOK.out, HEV.out]; exact ⟨rfl, rfl⟩
    rw [hA.1, hA.2]
    exact ⟨_, .slice none 0 0, fun _ => False, fun _ => False, rfl, none_partF _ _, .nil _ _ _ _ _ (Nat.zero_le _), fun _ h => h.elim, fun _ h => h.elim, BN.out.trans (HT5.out.to_below (fun b e => by omega) BN.out.size)⟩
  have HEV : Hid (e.ok = true) := hev
  clear hev
  have x0 := X2.out.cell (i := 0) rfl
  have x1 := X2.out.cell (i := 1) rfl
  have x2 := X2.out.cell (i := 2) rfl
  have x3 := X2.out.cell (i := 3) rfl
  have x4 := X2.out.cell (i := 4) rfl
  have x5 := X2.out.cell (i := 5) rfl
  have x6 := X2.out.cell (i := 6) rfl
  have e0 := E2.out.cell (i := 0) rfl
  have e1 := E2.out.cell (i := 1) rfl
  have e2 := E2.out.cell (i := 2) rfl
  have e3 := E2.out.cell (i := 3) rfl
  have e4 := E2.out.cell (i := 4) rfl
  have e5 := E2.out.cell (i := 5) rfl
  have e6 := E2.out.cell (i := 6) rfl
  go_wp2_with fail
  clear e0 x0 e1 x1 e2 x2 e3 x3 e4 x4 e5 x5 e6 x6
  refine (searchPast_any _ p.p e _ hp9 (O4.out.under HB2.out)).mono ?_
  rintro r w3 ⟨⟨k, f, rfl, q1, q2, q3⟩, hb⟩
  have HC : Hid (CutAt p.p e k) := found_cut HOK.out HEV.out q1 q2 q3
  have hk : k ≤ p.p.length := q1
  have hki : (k : Int) ≤ (p.p.length : Int) := by omega
  have hkc : (k : Int) ≤ (c4 : Int) := by omega
  have HB3 : Hid (Below w.heap.size w w3) := HB2.out.trans (hb.mono HB2.out.size)
  have hs3 : w2.heap.size ≤ w3.heap.size := hb.size
  have X3 : Hid (Bk w3 w.heap.size 36 #[.int .i64 p.n, .slice a1 p.st.r.length c1, .int .i64 p.st.q, .int .i64 p.st.d, .slice a4 p.p.length c4, .slice a5 p.t.length c5, .slice a6 p.a.length c6]) := X2.out.below hb
  have Z3 : Hid (Bk w3 (w.heap.size + 1 + 1) 36 #[.int .i64 0, .slice none 0 0, .int .i64 0, .int .i64 0, .slice none 0 0, .slice none 0 0, .slice none 0 0]) := Z2.out.below hb
  clear q1 q2 q3 hb X2 E2 Z2
  obtain ⟨V, hV⟩ : ∃ V, sliced a4 k p.p.length c4 12 = V := ⟨_, rfl⟩
  have hVD : IsD w V (pastsD (p.p.drop k)) := hV ▸ pasts_drop O4.out hk
  have hsl : ∀ w : World, (Instr.sliceAt 33 (.slice a4 p.p.length c4) (some (.int .i64 (k : Int))) none none).run Try.prog w = .ok V w := fun w => hV ▸ run_cutFrom _ _ _ _ hk w
  obtain ⟨U, hU⟩ : ∃ U, sliced a4 0 k c4 12 = U := ⟨_, rfl⟩
  have hUD : IsD w U (pastsD (p.p.take k)) := hU ▸ pasts_take O4.out hk
  have hsl2 : ∀ w : World, (Instr.sliceAt 33 (.slice a4 p.p.length c4) none (some (.int .i64 (k : Int))) none).run Try.prog w = .ok U w := fun w => hU ▸ run_cutTo _ _ _ _ (by omega) w
  obtain ⟨av, cv, rfl, _⟩ := IsD.len hVD
  obtain ⟨au, cu, rfl, _⟩ := IsD.len hUD
  obtain ⟨m, hm⟩ : ∃ m, (p.p.drop k).length = m := ⟨_, rfl⟩
  obtain ⟨m2, hm2⟩ : ∃ m, (p.p.take k).length = m := ⟨_, rfl⟩
  rw [hm] at hsl hVD
  rw [hm2] at hsl2 hUD
  have HVD : Hid (IsD w (.slice av m cv) (pastsD (p.p.drop k))) := hVD
  have HUD : Hid (IsD w (.slice au m2 cu) (pastsD (p.p.take k))) := hUD
  clear hV hU hVD hUD hm hm2
  have x0 := X3.out.cell (i := 0) rfl
  have x1 := X3.out.cell (i := 1) rfl
  have x2 := X3.out.cell (i := 2) rfl
  have x3 := X3.out.cell (i := 3) rfl
  have x4 := X3.out.cell (i := 4) rfl
  have x5 := X3.out.cell (i := 5) rfl
  have x6 := X3.out.cell (i := 6) rfl
  go_wp2_with fail
  clear x0 x1 x2 x3 x4 x5 x6
  refine (copyPasts_any _ (p.p.take k) _ (by have := take_wt p.p hk; have := HWT.out; unfold Pa.wt at this; omega) (HUD.out.under HB3.out)).mono ?_
  rintro r w4 ⟨y2, rfl, hb, hO⟩
  have HO4 : Hid (OwnD w4 (fun b => w3.heap.size ≤ b ∧ b < w4.heap.size) y2 (pastsD (p.p.take k))) := hO
  have HB4 : Hid (Below w.heap.size w w4) := HB3.out.trans (hb.mono HB3.out.size)
  have hs4 : w3.heap.size ≤ w4.heap.size := hb.size
  have X4 : Hid (Bk w4 w.heap.size 36 #[.int .i64 p.n, .slice a1 p.st.r.length c1, .int .i64 p.st.q, .int .i64 p.st.d, .slice a4 p.p.length c4, .slice a5 p.t.length c5, .slice a6 p.a.length c6]) := X3.out.below hb
  have Z4 : Hid (Bk w4 (w.heap.size + 1 + 1) 36 #[.int .i64 0, .slice none 0 0, .int .i64 0, .int .i64 0, .slice none 0 0, .slice none 0 0, .slice none 0 0]) := Z3.out.below hb
  obtain ⟨a2', c2', rfl, _⟩ := OwnD.parts (c := 12) (n := (p.p.take k).length) hO
  obtain ⟨m3, hm3⟩ : ∃ m, (p.p.take k).length = m := ⟨_, rfl⟩
  rw [hm3] at HO4 ⊢
  clear hm3 hb hO X3 Z3
  obtain ⟨W5, hW5⟩ : ∃ V, w4.setCell ⟨w.heap.size, 4, none⟩ (.slice av m cv) = V := ⟨_, rfl⟩
  have ht5 := put1_turns w4 w.heap.size 4 (.slice av m cv)
  have hp5 := X4.out.put 4 (.slice av m cv)
  rw [hW5] at ht5 hp5
  have X5 : Hid (Bk W5 w.heap.size 36 #[.int .i64 p.n, .slice a1 p.st.r.length c1, .int .i64 p.st.q, .int .i64 p.st.d, .slice av m cv, .slice a5 p.t.length c5, .slice a6 p.a.length c6]) := hp5
  have Z5 : Hid (Bk W5 (w.heap.size + 1 + 1) 36 #[.int .i64 0, .slice none 0 0, .int .i64 0, .int .i64 0, .slice none 0 0, .slice none 0 0, .slice none 0 0]) := Z4.out.turns ht5 (by omega)
  have T5 : Hid (Turns (fun b => b = w.heap.size) w4 W5) := ht5
  have HB5 : Hid (Below w.heap.size w W5) := HB4.out.trans (ht5.to_below (fun b e => by omega) HB4.out.size)
  have hs5 : w4.heap.size ≤ W5.heap.size := ht5.size
  clear ht5 hp5
  have x0 := X4.out.cell (i := 0) rfl
  have x1 := X4.out.cell (i := 1) rfl
  have x2 := X4.out.cell (i := 2) rfl
  have x3 := X4.out.cell (i := 3) rfl
  have x4 := X4.out.cell (i := 4) rfl
  have x5 := X4.out.cell (i := 5) rfl
  have x6 := X4.out.cell (i := 6) rfl
  have xf := X4.out.free
  have y0 := X5.out.cell (i := 0) rfl
  have y1 := X5.out.cell (i := 1) rfl
  have y2 := X5.out.cell (i := 2) rfl
  have y3 := X5.out.cell (i := 3) rfl
  have y4 := X5.out.cell (i := 4) rfl
  have y5 := X5.out.cell (i := 5) rfl
  have y6 := X5.out.cell (i := 6) rfl
  go_wp2_with fail
  clear hW5 xf x0 y0 x1 y1 x2 y2 x3 y3 x4 y4 x5 y5 x6 y6
  refine (copyPart_any _ (p.cut k) _ (by have := Pa.cut_wt p hk; have := HWT.out; omega) ⟨_, _, _, _, rfl, O1.out.under HB5.out, HVD.out.under HB5.out, O5.out.under HB5.out, O6.out.under HB5.out⟩).mono ?_
  rintro r w6 ⟨y, rfl, hb, hF⟩
  have HF6 : Hid (PartF (fun b => W5.heap.size ≤ b ∧ b < w6.heap.size) w6 y (p.cut k)) := hF
  have HO6 : Hid (OwnD w6 (fun b => w3.heap.size ≤ b ∧ b < w4.heap.size) (.slice a2' m3 c2') (pastsD (p.p.take k))) := (HO4.out.turns T5.out (fun b hb e => by omega)).under hb
  have HB6 : Hid (Below w.heap.size w w6) := HB5.out.trans (hb.mono HB5.out.size)
  have hs6 : W5.heap.size ≤ w6.heap.size := hb.size
  have Z6 : Hid (Bk w6 (w.heap.size + 1 + 1) 36 #[.int .i64 0, .slice none 0 0, .int .i64 0, .int .i64 0, .slice none 0 0, .slice none 0 0, .slice none 0 0]) := Z5.out.below hb
  obtain ⟨r1, s1, r4, s4, r5, s5, r6, s6, rfl⟩ := PartF.form hF
  clear hb hF Z5 X5
  have z0 := Z6.out.cell (i := 0) rfl
  have z1 := Z6.out.cell (i := 1) rfl
  have z2 := Z6.out.cell (i := 2) rfl
  have z3 := Z6.out.cell (i := 3) rfl
  have z4 := Z6.out.cell (i := 4) rfl
  have z5 := Z6.out.cell (i := 5) rfl
  have z6 := Z6.out.cell (i := 6) rfl
  have zf := Z6.out.free
  obtain ⟨X7, hX7⟩ : ∃ X5, put7s w6 (w.heap.size + 1 + 1) (.int .i64 (p.cut k).n) (.slice r1 (p.cut k).st.r.length s1) (.int .i64 (p.cut k).st.q) (.int .i64 (p.cut k).st.d) (.slice r4 (p.cut k).p.length s4) (.slice r5 (p.cut k).t.length s5) (.slice r6 (p.cut k).a.length s6) = X5 := ⟨_, rfl⟩
  have hP := Z6.out.put7s (.int .i64 (p.cut k).n) (.slice r1 (p.cut k).st.r.length s1) (.int .i64 (p.cut k).st.q) (.int .i64 (p.cut k).st.d) (.slice r4 (p.cut k).p.length s4) (.slice r5 (p.cut k).t.length s5) (.slice r6 (p.cut k).a.length s6)
  have ht := put7s_turns w6 (w.heap.size + 1 + 1) (.int .i64 (p.cut k).n) (.slice r1 (p.cut k).st.r.length s1) (.int .i64 (p.cut k).st.q) (.int .i64 (p.cut k).st.d) (.slice r4 (p.cut k).p.length s4) (.slice r5 (p.cut k).t.length s5) (.slice r6 (p.cut k).a.length s6)
  rw [hX7] at hP ht
  unfold put7s at hX7
  have HX7 : Hid _ := hX7
  have HP7 : Hid (Bk X7 (w.heap.size + 1 + 1) 36 #[.int .i64 (p.cut k).n, .slice r1 (p.cut k).st.r.length s1, .int .i64 (p.cut k).st.q, .int .i64 (p.cut k).st.d, .slice r4 (p.cut k).p.length s4, .slice r5 (p.cut k).t.length s5, .slice r6 (p.cut k).a.length s6]) := hP
  have HT7 : Hid (Turns (fun b => b = (w.heap.size + 1 + 1)) w6 X7) := ht
  clear hX7 hP ht
  go_wp2
  try rw [HX7.out]
  have t0 := HP7.out.cell (i := 0) rfl
  have t1 := HP7.out.cell (i := 1) rfl
  have t2 := HP7.out.cell (i := 2) rfl
  have t3 := HP7.out.cell (i := 3) rfl
  have t4 := HP7.out.cell (i := 4) rfl
  have t5 := HP7.out.cell (i := 5) rfl
  have t6 := HP7.out.cell (i := 6) rfl
  refine bodyPost_ret (v := .tuple #[.agg #[.int .i64 (p.cut k).n, .slice r1 (p.cut k).st.r.length s1, .int .i64 (p.cut k).st.q, .int .i64 (p.cut k).st.d, .slice r4 (p.cut k).p.length s4, .slice r5 (p.cut k).t.length s5, .slice r6 (p.cut k).a.length s6], .slice a2' m3 c2']) (by simp [results, Try.results9, go_sem, t0, t1, t2, t3, t4, t5, t6]) rfl ?_
  have hkk := HC.out.is
  have hA : trimA p e = p.cut k ∧ trimB p e = p.p.take k := by unfold trimA trimB; rw [HOK.out, HEV.out, ← hkk]; exact ⟨rfl, rfl⟩
  rw [hA.1, hA.2]
  have hsx := HT7.out.size
  exact ⟨_, _, _, _, rfl, HF6.out.turns HT7.out (fun b hb e => by omega), HO6.out.turns HT7.out (fun b hb e => by omega), fun b hb => ⟨by omega, fun hg => by omega⟩, fun b hb => by omega, HB6.out.trans (HT7.out.to_below (fun b e => by omega) HB6.out.size)⟩
end Go.Proofs.Ytdcnimdhfhbdmaa

/- An answer of a part and a list: what it reads as, what it owns. -/
namespace Go.Proofs.Ytdcnimdhfhbdmaa
open Go.RowKit
theorem IsPart.below {w w' : World} {x : Value} {p : Pa} (h : IsPart w x p) (hb : Below w.heap.size w w') : IsPart w' x p := h.under hb
theorem PartF.below {F : Nat → Prop} {w w' : World} {x : Value} {p : Pa} (h : PartF F w x p) (hb : Below w.heap.size w w') : PartF F w' x p := h.under hb
/- A part and a list, in blocks of R, told apart. -/
def A2 (R : Nat → Prop) (w : World) (y1 y2 : Value) (a : Pa) (d : Dat) : Prop := ∃ F G : Nat → Prop, PartF F w y1 a ∧ OwnD w G y2 d ∧ (∀ k, F k → R k ∧ ¬ G k) ∧ (∀ k, G k → R k)
theorem A2.turns {R S : Nat → Prop} {w w' : World} {y1 y2 : Value} {a : Pa} {d : Dat} (h : A2 R w y1 y2 a d) (ht : Turns S w w') (hS : ∀ k, R k → ¬ S k) : A2 R w' y1 y2 a d := by
  obtain ⟨F, G, h1, h2, hF, hG⟩ := h
  exact ⟨F, G, h1.turns ht (fun k hk => hS k (hF k hk).1), h2.turns ht (fun k hk => hS k (hG k hk)), hF, hG⟩
theorem A2.below {R : Nat → Prop} {w w' : World} {y1 y2 : Value} {a : Pa} {d : Dat} (h : A2 R w y1 y2 a d) (hb : Below w.heap.size w w') : A2 R w' y1 y2 a d :=
  h.turns (S := fun _ => False) (Turns.of_below hb) (fun _ _ => id)
theorem A2.mono {R R' : Nat → Prop} {w : World} {y1 y2 : Value} {a : Pa} {d : Dat} (h : A2 R w y1 y2 a d) (hR : ∀ k, R k → R' k) : A2 R' w y1 y2 a d := by
  obtain ⟨F, G, h1, h2, hF, hG⟩ := h
  exact ⟨F, G, h1, h2, fun k hk => ⟨hR k (hF k hk).1, (hF k hk).2⟩, fun k hk => hR k (hG k hk)⟩
theorem A2.part {R : Nat → Prop} {w : World} {y1 y2 : Value} {a : Pa} {d : Dat} (h : A2 R w y1 y2 a d) : IsPart w y1 a := by
  obtain ⟨F, G, h1, h2, hF, hG⟩ := h
  exact h1.is
theorem A2.list {R : Nat → Prop} {w : World} {y1 y2 : Value} {a : Pa} {d : Dat} (h : A2 R w y1 y2 a d) : IsD w y2 d := by
  obtain ⟨F, G, h1, h2, hF, hG⟩ := h
  exact h2.isD
theorem A2.form {R : Nat → Prop} {w : World} {y1 y2 : Value} {p : Pa} {c n : Nat} {f : Nat → Dat} (h : A2 R w y1 y2 p (.row c n f)) : ∃ a1 c1 a4 c4 a5 c5 a6 c6 a7 c7, y1 = .agg #[.int .i64 p.n, .slice a1 p.st.r.length c1, .int .i64 p.st.q, .int .i64 p.st.d, .slice a4 p.p.length c4, .slice a5 p.t.length c5, .slice a6 p.a.length c6] ∧ y2 = .slice a7 n c7 := by
  obtain ⟨F, G, h1, h2, hF, hG⟩ := h
  obtain ⟨a1, c1, a4, c4, a5, c5, a6, c6, rfl⟩ := h1.form
  obtain ⟨a7, c7, rfl, _⟩ := h2.parts
  exact ⟨a1, c1, a4, c4, a5, c5, a6, c6, a7, c7, rfl, rfl⟩
/- The same, marked: the part from one on, the list behind it. -/
def H2 (R : Nat → Prop) (w : World) (y1 y2 : Value) (a : Pa) (d : Dat) : Prop := ∃ F G : Nat → Prop, HeldPart F w y1 a 1 ∧ OwnD w G y2 (d.mark (1 + (a.cntA : Int))) ∧ (∀ k, F k → R k ∧ ¬ G k) ∧ (∀ k, G k → R k)
theorem H2.turns {R S : Nat → Prop} {w w' : World} {y1 y2 : Value} {a : Pa} {d : Dat} (h : H2 R w y1 y2 a d) (ht : Turns S w w') (hS : ∀ k, R k → ¬ S k) : H2 R w' y1 y2 a d := by
  obtain ⟨F, G, h1, h2, hF, hG⟩ := h
  exact ⟨F, G, h1.turns ht (fun k hk => hS k (hF k hk).1), h2.turns ht (fun k hk => hS k (hG k hk)), hF, hG⟩
theorem H2.below {R : Nat → Prop} {w w' : World} {y1 y2 : Value} {a : Pa} {d : Dat} (h : H2 R w y1 y2 a d) (hb : Below w.heap.size w w') : H2 R w' y1 y2 a d :=
  h.turns (S := fun _ => False) (Turns.of_below hb) (fun _ _ => id)
/- Half marked. -/
def H1 (R : Nat → Prop) (w : World) (y1 y2 : Value) (a : Pa) (d : Dat) : Prop := ∃ F G : Nat → Prop, HeldPart F w y1 a 1 ∧ OwnD w G y2 d ∧ (∀ k, F k → R k ∧ ¬ G k) ∧ (∀ k, G k → R k)
theorem H1.turns {R S : Nat → Prop} {w w' : World} {y1 y2 : Value} {a : Pa} {d : Dat} (h : H1 R w y1 y2 a d) (ht : Turns S w w') (hS : ∀ k, R k → ¬ S k) : H1 R w' y1 y2 a d := by
  obtain ⟨F, G, h1, h2, hF, hG⟩ := h
  exact ⟨F, G, h1.turns ht (fun k hk => hS k (hF k hk).1), h2.turns ht (fun k hk => hS k (hG k hk)), hF, hG⟩
theorem H1.below {R : Nat → Prop} {w w' : World} {y1 y2 : Value} {a : Pa} {d : Dat} (h : H1 R w y1 y2 a d) (hb : Below w.heap.size w w') : H1 R w' y1 y2 a d :=
  h.turns (S := fun _ => False) (Turns.of_below hb) (fun _ _ => id)
theorem Turns.wide {F R : Nat → Prop} {w w' : World} (h : Turns F w w') (hF : ∀ k, F k → R k) : Turns R w w' := h.mono hF
theorem A2.mark1 {R : Nat → Prop} {w : World} {y1 y2 : Value} {a : Pa} {d : Dat} (hn : a.wt ≤ 1048577) (h : A2 R w y1 y2 a d) :
    Calls Try.prog 12 #[y1, .int .i64 1] w fun e w' => e = .returned (.int .i64 (1 + (a.cntA : Int))) ∧ H1 R w' y1 y2 a d ∧ Turns R w w' := by
  obtain ⟨F, G, h1, h2, hF, hG⟩ := h
  refine (markPart_any 1 hn (by omega) (by have := Pa.cntA_le a; omega) h1).mono ?_
  rintro e w' ⟨rfl, hh, ht⟩
  exact ⟨rfl, ⟨F, G, hh, h2.turns ht (fun k hk hk' => (hF k hk').2 hk), hF, hG⟩, ht.wide (fun k hk => (hF k hk).1)⟩
theorem H2.held1 {R : Nat → Prop} {w : World} {y1 y2 : Value} {a : Pa} {d : Dat} (hn : a.wt ≤ 1048577) (h : H2 R w y1 y2 a d) :
    Calls Try.prog 14 #[y1, .int .i64 1] w fun e w' => e = .returned (.int .i64 (1 + (a.cntA : Int))) ∧ Below w.heap.size w w' := by
  obtain ⟨F, G, h1, h2, hF, hG⟩ := h
  exact heldPart_any 1 hn (by omega) (by have := Pa.cntA_le a; omega) h1
theorem H1.mark2p {R : Nat → Prop} {w : World} {y1 y2 : Value} {a : Pa} {l : List Ps} (hn : a.wt ≤ 1048577) (hl : (pastsD l).wt ≤ 1048577) (h : H1 R w y1 y2 a (pastsD l)) :
    Calls Try.prog 13 #[y2, .int .i64 (1 + (a.cntA : Int))] w fun e w' => e = .returned (.int .i64 (1 + (a.cntA : Int) + ((pastsD l).cnt : Int))) ∧ H2 R w' y1 y2 a (pastsD l) ∧ Turns R w w' := by
  obtain ⟨F, G, h1, h2, hF, hG⟩ := h
  have t1 := Pa.cntA_le a
  have t2 : (pastsD l).cnt ≤ 40 * (pastsD l).wt := Dat.cnt_le (pasts_thin l)
  refine (mark_pasts _ hl (by omega) (by omega) h2).mono ?_
  rintro e w' ⟨rfl, hh, ht⟩
  exact ⟨rfl, ⟨F, G, h1.turns ht (fun k hk hk' => (hF k hk).2 hk'), hh, hF, hG⟩, ht.wide hG⟩
theorem H2.held2p {R : Nat → Prop} {w : World} {y1 y2 : Value} {a : Pa} {l : List Ps} (hn : a.wt ≤ 1048577) (hl : (pastsD l).wt ≤ 1048577) (h : H2 R w y1 y2 a (pastsD l)) :
    Calls Try.prog 15 #[y2, .int .i64 (1 + (a.cntA : Int))] w fun e w' => e = .returned (.int .i64 (1 + (a.cntA : Int) + ((pastsD l).cnt : Int))) ∧ Below w.heap.size w w' := by
  obtain ⟨F, G, h1, h2, hF, hG⟩ := h
  have t1 := Pa.cntA_le a
  have t2 : (pastsD l).cnt ≤ 40 * (pastsD l).wt := Dat.cnt_le (pasts_thin l)
  exact held_pasts _ hl (by omega) (by omega) h2
theorem H1.mark2e {R : Nat → Prop} {w : World} {y1 y2 : Value} {a : Pa} {l : List Ev} (hn : a.wt ≤ 1048577) (hl : l.length ≤ 1048577) (h : H1 R w y1 y2 a (evsD l)) :
    Calls Try.prog 19 #[y2, .int .i64 (1 + (a.cntA : Int))] w fun e w' => e = .returned (.int .i64 (1 + (a.cntA : Int) + ((evsD l).cnt : Int))) ∧ H2 R w' y1 y2 a (evsD l) ∧ Turns R w w' := by
  obtain ⟨F, G, h1, h2, hF, hG⟩ := h
  have t1 := Pa.cntA_le a
  refine (mark_evs _ hl (by omega) (by omega) h2).mono ?_
  rintro e w' ⟨rfl, hh, ht⟩
  exact ⟨rfl, ⟨F, G, h1.turns ht (fun k hk hk' => (hF k hk).2 hk'), hh, hF, hG⟩, ht.wide hG⟩
theorem H2.held2e {R : Nat → Prop} {w : World} {y1 y2 : Value} {a : Pa} {l : List Ev} (hn : a.wt ≤ 1048577) (hl : l.length ≤ 1048577) (h : H2 R w y1 y2 a (evsD l)) :
    Calls Try.prog 20 #[y2, .int .i64 (1 + (a.cntA : Int))] w fun e w' => e = .returned (.int .i64 (1 + (a.cntA : Int) + ((evsD l).cnt : Int))) ∧ Below w.heap.size w w' := by
  obtain ⟨F, G, h1, h2, hF, hG⟩ := h
  have t1 := Pa.cntA_le a
  exact held_evs _ hl (by omega) (by omega) h2
end Go.Proofs.Ytdcnimdhfhbdmaa

/- Both Trim, as the law wants them. -/
namespace Go.Proofs.Ytdcnimdhfhbdmaa
open Go.RowKit
theorem TrimAns.a2 {w w' : World} {r : Ending} {a : Pa} {l : List Ps} (h : TrimAns w w' r a l) : ∃ y1 y2, r = .returned (.tuple #[y1, y2]) ∧ Below w.heap.size w w' ∧ A2 (fun k => w.heap.size ≤ k ∧ k < w'.heap.size) w' y1 y2 a (pastsD l) := by
  obtain ⟨y1, y2, F, G, rfl, h1, h2, h3, h4, hb⟩ := h
  exact ⟨y1, y2, rfl, hb, F, G, h1, h2, h3, h4⟩
theorem none_wt : Pa.none.wt ≤ 1048576 := by
  have e1 : (intsD []).wt = 0 := ints_wt []
  have e2 : (evsD []).wt = 0 := evs_wt []
  have e3 : (pastsD []).wt = 0 := by rw [pastsD_wt]; rfl
  show (intsD []).wt + (pastsD []).wt + (evsD []).wt + (intsD []).wt ≤ 1048576
  rw [e1, e2, e3]; omega
theorem trim_small {p : Pa} {e : Ev} (h : p.wt ≤ 1048576) : (trimA p e).wt ≤ 1048576 ∧ (pastsD (trimB p e)).wt ≤ 1048576 := by
  unfold trimA trimB
  have hk := (cutK_at p.p e).le
  split
  · have h1 := Pa.cut_wt p hk
    have h2 := take_wt p.p hk
    have h3 : (pastsD p.p).wt ≤ p.wt := by unfold Pa.wt; omega
    exact ⟨by omega, by omega⟩
  · exact ⟨none_wt, by rw [show (pastsD []).wt = 0 from by rw [pastsD_wt]; rfl]; omega⟩
end Go.Proofs.Ytdcnimdhfhbdmaa

