/- PCr, PDw -/
import Derived.Test.YtnccenbkpocjgaaGreatExactHearG30
import Derived.Test.YtnccenbkpocjgaaGreatExactUnhearG02
/- A copy of a part whose lists may grow. The program's copy of a part: all of it in memory of its own. -/
namespace Go.Proofs.YtnccenbkpocjgaaGreat
open Go.RowKit
theorem tzPCr {P : Program} {md : Region.Mode} {ops : Array Oper} {Q : Exit → Act → World → Prop} {S : World → Prop} {z fuel : Nat} {listed : Array Bool} {a : Act} {w : World} (i : Nat) (oi : Oper) (v : Value)
 (h : wpAnyZ P md ops Q S z fuel (listed.setIfInBounds i true) (a.put oi.dst v) w) (hi : ops[i]? = some oi := by rfl)
 (hs : Region.noSelect ops = true := by kernel_rfl) (hf : Region.free md ops listed i = true := by kernel_rfl) (hr : (Region.ready md ops listed).contains i = true := by kernel_rfl)
 (hc : chainB md ops i z [i] = true := by kernel_rfl) (hu : [i].all (fun p => !listed.getD p true) = true := by kernel_rfl)
 (hQ : ∀ c a w, Q (.panic c) (a.put oi.dst v) w → Q (.panic c) a w := by exact fun _ _ _ h => h)
 (hy : YieldsIf P ops S oi v a := by exact Or.inl ⟨by rfl, by (intro wX hSw; (try dsimp only at hSw); go_simp; (try exact IntWalk.i64_in _ (by omega)))⟩) (hS : S w := by assumption) : wpAnyZ P md ops Q S z (fuel + 1) listed a w :=
 wpAnyZ_take i [] hi hs hf hr hc hu hQ hy hS h
theorem hidPCr {p : Prop} (h : p) : Hid p := h
set_option maxRecDepth 100000 in
set_option maxHeartbeats 16000000 in
theorem copyPart_own (x : Value) (p : Pa) (w : World) (hw : p.wt ≤ 1048577) (h : IsPart w x p) :
  Calls Tryz.prog 78 #[x] w fun r w' => ∃ vr vp vt va A1 A4, r = .returned (.agg #[.int .i64 p.n, vr, .int .i64 p.st.q, .int .i64 p.st.d, vp, vt, va]) ∧ Below w.heap.size w w' ∧ CpR w.heap.size w' vr vp vt va A1 A4 p := by
 obtain ⟨u1, u4, u5, u6, rfl, d1, d4, d5, d6⟩ := h
 obtain ⟨a1, c1, rfl, _⟩ := IsD.len d1
 obtain ⟨a4, c4, rfl, _⟩ := IsD.len d4
 obtain ⟨a5, c5, rfl, _⟩ := IsD.len d5
 obtain ⟨a6, c6, rfl, _⟩ := IsD.len d6
 have hwt : p.t.length ≤ 1048577 ∧ p.a.length ≤ 1048577 ∧ (pastsD p.p).wt ≤ 1048577 ∧ p.st.r.length ≤ 1048577 := by
  have e0 := ints_wt p.st.r
  have e1 := evs_wt p.t
  have e2 := ints_wt p.a
  unfold Pa.wt at hw
  omega
 obtain ⟨ht9, ha9, hp9, hr9⟩ := hwt
 obtain ⟨W0, hW0⟩ : ∃ W0, (w.alloc (.cells #[.int .i64 p.n, .slice a1 p.st.r.length c1, .int .i64 p.st.q, .int .i64 p.st.d, .slice a4 p.p.length c4, .slice a5 p.t.length c5, .slice a6 p.a.length c6] 33)).alloc (.cells #[.int .i64 0, .slice none 0 0, .int .i64 0, .int .i64 0, .slice none 0 0, .slice none 0 0, .slice none 0 0] 33) = W0 := ⟨_, rfl⟩
 have hz0 : W0.heap.size = w.heap.size + 1 + 1 := by rw [← hW0]; simp
 have hb0 : Below w.heap.size w W0 := hW0 ▸ ((Below.refl _ w).alloc (Nat.le_refl _) _).alloc (by simp) _
 have HBw := hidPCr hb0
 have HW0 := hidPCr hW0
 have BX : Hid (Bk W0 w.heap.size 33 #[.int .i64 p.n, .slice a1 p.st.r.length c1, .int .i64 p.st.q, .int .i64 p.st.d, .slice a4 p.p.length c4, .slice a5 p.t.length c5, .slice a6 p.a.length c6]) := hW0 ▸ (Bk.new w _ _).alloc _
 have BZ : Hid (Bk W0 (w.heap.size + 1) 33 #[.int .i64 0, .slice none 0 0, .int .i64 0, .int .i64 0, .slice none 0 0, .slice none 0 0, .slice none 0 0]) := hW0 ▸ Bk.newAt (by simp) _ _
 have D1 := hidPCr (d1.under hb0)
 have D4 := hidPCr (d4.under hb0)
 have D5 := hidPCr (d5.under hb0)
 have D6 := hidPCr (d6.under hb0)
 have hz0' : W0.heap.size ≤ w.heap.size + 1 + 1 ∧ w.heap.size + 1 + 1 ≤ W0.heap.size := by omega
 clear hW0 hb0 d1 d4 d5 d6 hw hz0
 go_enter Tryz.func78, Tryz.ntmps78
 go_wp2_with fail
 rw [HW0.out]
 clear HW0
 have hzd : W0.drew.heap.size ≤ W0.heap.size ∧ W0.heap.size ≤ W0.drew.heap.size := ⟨Nat.le_refl _, Nat.le_refl _⟩
 have B_0 : Hid (Below W0.heap.size W0 W0.drew) := (Below.refl _ W0).drew
 have X_0 := hidPCr BX.out.drew
 have Z_0 := hidPCr BZ.out.drew
 have D1_0 := hidPCr (D1.out.under (Below.refl _ W0).drew)
 have D4_0 := hidPCr (D4.out.under (Below.refl _ W0).drew)
 have D5_0 := hidPCr (D5.out.under (Below.refl _ W0).drew)
 have D6_0 := hidPCr (D6.out.under (Below.refl _ W0).drew)
 have Q_0 : Hid (W0.drew.cell? ⟨w.heap.size, 0, none⟩ = some (.int .i64 p.n) ∧ W0.drew.cell? ⟨w.heap.size, 1, none⟩ = some (.slice a1 p.st.r.length c1) ∧ W0.drew.cell? ⟨w.heap.size, 2, none⟩ = some (.int .i64 p.st.q) ∧ W0.drew.cell? ⟨w.heap.size, 3, none⟩ = some (.int .i64 p.st.d) ∧ W0.drew.cell? ⟨w.heap.size, 4, none⟩ = some (.slice a4 p.p.length c4) ∧ W0.drew.cell? ⟨w.heap.size, 5, none⟩ = some (.slice a5 p.t.length c5) ∧ W0.drew.cell? ⟨w.heap.size, 6, none⟩ = some (.slice a6 p.a.length c6)) := ⟨X_0.out.cell rfl, X_0.out.cell rfl, X_0.out.cell rfl, X_0.out.cell rfl, X_0.out.cell rfl, X_0.out.cell rfl, X_0.out.cell rfl⟩
 clear BX BZ D1 D4 D5 D6
 refine wp_region_z 15 (fun W => W.cell? ⟨w.heap.size, 0, none⟩ = some (.int .i64 p.n) ∧ W.cell? ⟨w.heap.size, 1, none⟩ = some (.slice a1 p.st.r.length c1) ∧ W.cell? ⟨w.heap.size, 2, none⟩ = some (.int .i64 p.st.q) ∧ W.cell? ⟨w.heap.size, 3, none⟩ = some (.int .i64 p.st.d) ∧ W.cell? ⟨w.heap.size, 4, none⟩ = some (.slice a4 p.p.length c4) ∧ W.cell? ⟨w.heap.size, 5, none⟩ = some (.slice a5 p.t.length c5) ∧ W.cell? ⟨w.heap.size, 6, none⟩ = some (.slice a6 p.a.length c6)) (by kernel_rfl) Q_0.out (fun hHeld => ?_)
 refine tzPCr 0 { dst := some 3, op := Op.fieldAddr 33 (Operand.tmp 1) 0, type := 0, pos := _, after := _, guard := none } (.pointer (some ⟨w.heap.size, 0, none⟩)) ?_
 try simp only [Act.put, List.setIfInBounds_toArray, List.set_cons_zero, List.set_cons_succ]
 refine tzPCr 1 { dst := some 4, op := Op.load 3 (Operand.tmp 3), type := 3, pos := _, after := _, guard := none } (.int .i64 p.n) ?_
 try simp only [Act.put, List.setIfInBounds_toArray, List.set_cons_zero, List.set_cons_succ]
 refine tzPCr 2 { dst := some 5, op := Op.fieldAddr 33 (Operand.tmp 1) 1, type := 0, pos := _, after := _, guard := none } (.pointer (some ⟨w.heap.size, 1, none⟩)) ?_
 try simp only [Act.put, List.setIfInBounds_toArray, List.set_cons_zero, List.set_cons_succ]
 refine tzPCr 3 { dst := some 6, op := Op.load 29 (Operand.tmp 5), type := 29, pos := _, after := _, guard := none } (.agg #[.slice a1 p.st.r.length c1, .int .i64 p.st.q, .int .i64 p.st.d]) ?_
 try simp only [Act.put, List.setIfInBounds_toArray, List.set_cons_zero, List.set_cons_succ]
 refine tzPCr 5 { dst := some 8, op := Op.fieldAddr 33 (Operand.tmp 1) 2, type := 0, pos := _, after := _, guard := none } (.pointer (some ⟨w.heap.size, 4, none⟩)) ?_
 try simp only [Act.put, List.setIfInBounds_toArray, List.set_cons_zero, List.set_cons_succ]
 refine tzPCr 6 { dst := some 9, op := Op.load 30 (Operand.tmp 8), type := 30, pos := _, after := _, guard := none } (.slice a4 p.p.length c4) ?_
 try simp only [Act.put, List.setIfInBounds_toArray, List.set_cons_zero, List.set_cons_succ]
 refine tzPCr 8 { dst := some 11, op := Op.fieldAddr 33 (Operand.tmp 1) 3, type := 0, pos := _, after := _, guard := none } (.pointer (some ⟨w.heap.size, 5, none⟩)) ?_
 try simp only [Act.put, List.setIfInBounds_toArray, List.set_cons_zero, List.set_cons_succ]
 refine tzPCr 9 { dst := some 12, op := Op.load 31 (Operand.tmp 11), type := 31, pos := _, after := _, guard := none } (.slice a5 p.t.length c5) ?_
 try simp only [Act.put, List.setIfInBounds_toArray, List.set_cons_zero, List.set_cons_succ]
 refine tzPCr 11 { dst := some 14, op := Op.fieldAddr 33 (Operand.tmp 1) 4, type := 0, pos := _, after := _, guard := none } (.pointer (some ⟨w.heap.size, 6, none⟩)) ?_
 try simp only [Act.put, List.setIfInBounds_toArray, List.set_cons_zero, List.set_cons_succ]
 refine tzPCr 12 { dst := some 15, op := Op.load 22 (Operand.tmp 14), type := 22, pos := _, after := _, guard := none } (.slice a6 p.a.length c6) ?_
 try simp only [Act.put, List.setIfInBounds_toArray, List.set_cons_zero, List.set_cons_succ]
 refine wpAnyZ_ready (rs := [4]) (by kernel_rfl) (by simp) ?_
 refine AllReadyZ.cons (o := { dst := some 7, op := Op.call { callee := Callee.value (Operand.func 134), args := #[Operand.tmp 6], argTypes := #[29] }, type := 29, pos := _, after := _, guard := none }) rfl (fun K hK => ?_) AllReadyZ.nil
 have hbs1 : W0.heap.size ≤ W0.drew.heap.size := B_0.out.size
 go_simp
 refine (snap_src _ _ p.st W0.drew hr9 rfl D1_0.out).mono ?_
 rintro e w1 ⟨vs1, rfl, hown, hb⟩
 obtain ⟨as1, cs1, hvs⟩ := owns_slice hown
 subst hvs
 have HLS := hidPCr (row_lim hown)
 have hz1 : W0.drew.heap.size ≤ w1.heap.size := hb.size
 have B_2 := hidPCr (B_0.out.trans (hb.mono B_0.out.size))
 have X_2 := hidPCr (X_0.out.below hb)
 have Z_2 := hidPCr (Z_0.out.below hb)
 have D4_2 := hidPCr (D4_0.out.under hb)
 have D5_2 := hidPCr (D5_0.out.under hb)
 have D6_2 := hidPCr (D6_0.out.under hb)
 clear B_0 X_0 Z_0 D1_0 D4_0 D5_0 D6_0
 have S_2 := hidPCr (owns_mono hown hbs1)
 clear hown hb
 have Q_2 : Hid (w1.cell? ⟨w.heap.size, 0, none⟩ = some (.int .i64 p.n) ∧ w1.cell? ⟨w.heap.size, 1, none⟩ = some (.slice a1 p.st.r.length c1) ∧ w1.cell? ⟨w.heap.size, 2, none⟩ = some (.int .i64 p.st.q) ∧ w1.cell? ⟨w.heap.size, 3, none⟩ = some (.int .i64 p.st.d) ∧ w1.cell? ⟨w.heap.size, 4, none⟩ = some (.slice a4 p.p.length c4) ∧ w1.cell? ⟨w.heap.size, 5, none⟩ = some (.slice a5 p.t.length c5) ∧ w1.cell? ⟨w.heap.size, 6, none⟩ = some (.slice a6 p.a.length c6)) := ⟨X_2.out.cell rfl, X_2.out.cell rfl, X_2.out.cell rfl, X_2.out.cell rfl, X_2.out.cell rfl, X_2.out.cell rfl, X_2.out.cell rfl⟩
 refine hK.out _ _ Q_2.out (fun hHeld => ?_)
 clear hK K
 try simp only [Act.put, List.setIfInBounds_toArray, List.set_cons_zero, List.set_cons_succ]
 refine wpAnyZ_ready (rs := [7]) (by kernel_rfl) (by simp) ?_
 refine AllReadyZ.cons (o := { dst := some 10, op := Op.call { callee := Callee.value (Operand.func 135), args := #[Operand.tmp 9], argTypes := #[30] }, type := 30, pos := _, after := _, guard := none }) rfl (fun K hK => ?_) AllReadyZ.nil
 have hbs3 : W0.heap.size ≤ w1.heap.size := B_2.out.size
 go_simp
 refine (copyPasts_any _ p.p w1 hp9 D4_2.out).mono ?_
 rintro e w3 ⟨vs1, rfl, hb, hown⟩
 obtain ⟨ap1, cp1, hvs, _⟩ := OwnD.parts (c := 12) (n := p.p.length) hown
 subst hvs
 have hz3 : w1.heap.size ≤ w3.heap.size := hb.size
 have B_4 := hidPCr (B_2.out.trans (hb.mono B_2.out.size))
 have X_4 := hidPCr (X_2.out.below hb)
 have Z_4 := hidPCr (Z_2.out.below hb)
 have D5_4 := hidPCr (D5_2.out.under hb)
 have D6_4 := hidPCr (D6_2.out.under hb)
 have S_4 := hidPCr (owns_turns S_2.out (Turns.of_below hb) (fun _ _ => id))
 clear B_2 X_2 Z_2 D4_2 D5_2 D6_2 S_2
 have P_4 := hidPCr hown
 clear hown hb
 have Q_4 : Hid (w3.cell? ⟨w.heap.size, 0, none⟩ = some (.int .i64 p.n) ∧ w3.cell? ⟨w.heap.size, 1, none⟩ = some (.slice a1 p.st.r.length c1) ∧ w3.cell? ⟨w.heap.size, 2, none⟩ = some (.int .i64 p.st.q) ∧ w3.cell? ⟨w.heap.size, 3, none⟩ = some (.int .i64 p.st.d) ∧ w3.cell? ⟨w.heap.size, 4, none⟩ = some (.slice a4 p.p.length c4) ∧ w3.cell? ⟨w.heap.size, 5, none⟩ = some (.slice a5 p.t.length c5) ∧ w3.cell? ⟨w.heap.size, 6, none⟩ = some (.slice a6 p.a.length c6)) := ⟨X_4.out.cell rfl, X_4.out.cell rfl, X_4.out.cell rfl, X_4.out.cell rfl, X_4.out.cell rfl, X_4.out.cell rfl, X_4.out.cell rfl⟩
 refine hK.out _ _ Q_4.out (fun hHeld => ?_)
 clear hK K
 try simp only [Act.put, List.setIfInBounds_toArray, List.set_cons_zero, List.set_cons_succ]
 refine wpAnyZ_ready (rs := [10]) (by kernel_rfl) (by simp) ?_
 refine AllReadyZ.cons (o := { dst := some 13, op := Op.call { callee := Callee.value (Operand.func 83), args := #[Operand.tmp 12], argTypes := #[31] }, type := 31, pos := _, after := _, guard := none }) rfl (fun K hK => ?_) AllReadyZ.nil
 have hbs5 : W0.heap.size ≤ w3.heap.size := B_4.out.size
 go_simp
 refine (copyEv_src _ p.t w3 ht9 D5_4.out.srcEv).mono ?_
 rintro e w5 ⟨vs1, rfl, hown, hb⟩
 obtain ⟨at1, ct1, hvs⟩ := owns_slice hown
 subst hvs
 have HLT := hidPCr (row_lim hown)
 have hz5 : w3.heap.size ≤ w5.heap.size := hb.size
 have B_6 := hidPCr (B_4.out.trans (hb.mono B_4.out.size))
 have X_6 := hidPCr (X_4.out.below hb)
 have Z_6 := hidPCr (Z_4.out.below hb)
 have D6_6 := hidPCr (D6_4.out.under hb)
 have S_6 := hidPCr (owns_turns S_4.out (Turns.of_below hb) (fun _ _ => id))
 have P_6 := hidPCr (P_4.out.under hb)
 clear B_4 X_4 Z_4 D5_4 D6_4 S_4 P_4
 have T_6 := hidPCr (owns_mono hown hbs5)
 clear hown hb
 have Q_6 : Hid (w5.cell? ⟨w.heap.size, 0, none⟩ = some (.int .i64 p.n) ∧ w5.cell? ⟨w.heap.size, 1, none⟩ = some (.slice a1 p.st.r.length c1) ∧ w5.cell? ⟨w.heap.size, 2, none⟩ = some (.int .i64 p.st.q) ∧ w5.cell? ⟨w.heap.size, 3, none⟩ = some (.int .i64 p.st.d) ∧ w5.cell? ⟨w.heap.size, 4, none⟩ = some (.slice a4 p.p.length c4) ∧ w5.cell? ⟨w.heap.size, 5, none⟩ = some (.slice a5 p.t.length c5) ∧ w5.cell? ⟨w.heap.size, 6, none⟩ = some (.slice a6 p.a.length c6)) := ⟨X_6.out.cell rfl, X_6.out.cell rfl, X_6.out.cell rfl, X_6.out.cell rfl, X_6.out.cell rfl, X_6.out.cell rfl, X_6.out.cell rfl⟩
 refine hK.out _ _ Q_6.out (fun hHeld => ?_)
 clear hK K
 try simp only [Act.put, List.setIfInBounds_toArray, List.set_cons_zero, List.set_cons_succ]
 refine wpAnyZ_ready (rs := [13]) (by kernel_rfl) (by simp) ?_
 refine AllReadyZ.cons (o := { dst := some 16, op := Op.call { callee := Callee.value (Operand.func 136), args := #[Operand.tmp 15], argTypes := #[22] }, type := 22, pos := _, after := _, guard := none }) rfl (fun K hK => ?_) AllReadyZ.nil
 have hbs7 : W0.heap.size ≤ w5.heap.size := B_6.out.size
 go_simp
 refine (copyI_src _ p.a w5 ha9 D6_6.out.srcI).mono ?_
 rintro e w7 ⟨vs1, rfl, hown, hb⟩
 obtain ⟨aa1, ca1, hvs⟩ := owns_slice hown
 subst hvs
 have HLA := hidPCr (row_lim hown)
 have hz7 : w5.heap.size ≤ w7.heap.size := hb.size
 have B_8 := hidPCr (B_6.out.trans (hb.mono B_6.out.size))
 have X_8 := hidPCr (X_6.out.below hb)
 have Z_8 := hidPCr (Z_6.out.below hb)
 have S_8 := hidPCr (owns_turns S_6.out (Turns.of_below hb) (fun _ _ => id))
 have P_8 := hidPCr (P_6.out.under hb)
 have T_8 := hidPCr (owns_turns T_6.out (Turns.of_below hb) (fun _ _ => id))
 clear B_6 X_6 Z_6 D6_6 S_6 P_6 T_6
 have A_8 := hidPCr (owns_mono hown hbs7)
 clear hown hb
 have Q_8 : Hid (w7.cell? ⟨w.heap.size, 0, none⟩ = some (.int .i64 p.n) ∧ w7.cell? ⟨w.heap.size, 1, none⟩ = some (.slice a1 p.st.r.length c1) ∧ w7.cell? ⟨w.heap.size, 2, none⟩ = some (.int .i64 p.st.q) ∧ w7.cell? ⟨w.heap.size, 3, none⟩ = some (.int .i64 p.st.d) ∧ w7.cell? ⟨w.heap.size, 4, none⟩ = some (.slice a4 p.p.length c4) ∧ w7.cell? ⟨w.heap.size, 5, none⟩ = some (.slice a5 p.t.length c5) ∧ w7.cell? ⟨w.heap.size, 6, none⟩ = some (.slice a6 p.a.length c6)) := ⟨X_8.out.cell rfl, X_8.out.cell rfl, X_8.out.cell rfl, X_8.out.cell rfl, X_8.out.cell rfl, X_8.out.cell rfl, X_8.out.cell rfl⟩
 refine hK.out _ _ Q_8.out (fun hHeld => ?_)
 clear hK K
 try simp only [Act.put, List.setIfInBounds_toArray, List.set_cons_zero, List.set_cons_succ]
 refine tzPCr 14 { dst := some 17, op := Op.build 33 #[(0, Operand.tmp 4), (1, Operand.tmp 7), (2, Operand.tmp 10), (3, Operand.tmp 13), (4, Operand.tmp 16)], type := 33, pos := _, after := _, guard := none } (.agg #[.int .i64 p.n, .slice as1 p.st.r.length cs1, .int .i64 p.st.q, .int .i64 p.st.d, .slice ap1 p.p.length cp1, .slice at1 p.t.length ct1, .slice aa1 p.a.length ca1]) ?_
 try simp only [Act.put, List.setIfInBounds_toArray, List.set_cons_zero, List.set_cons_succ]
 refine wpAnyZ_ready (rs := [15]) (by kernel_rfl) (by simp) ?_
 refine AllReadyZ.last (o := { dst := none, op := Op.store 33 (Operand.tmp 2) (Operand.tmp 17), type := 0, pos := _, after := _, guard := none }) rfl (fun K hK => ?_)
 have q0 := Z_8.out.cell (i := 0) rfl
 have q1 := Z_8.out.cell (i := 1) rfl
 have q2 := Z_8.out.cell (i := 2) rfl
 have q3 := Z_8.out.cell (i := 3) rfl
 have q4 := Z_8.out.cell (i := 4) rfl
 have q5 := Z_8.out.cell (i := 5) rfl
 have q6 := Z_8.out.cell (i := 6) rfl
 have qf := Z_8.out.free
 go_simp
 clear qf q0 q1 q2 q3 q4 q5 q6
 refine hK.out _ _ ?_
 clear hK K
 try simp only [Act.put, List.setIfInBounds_toArray, List.set_cons_zero, List.set_cons_succ]
 refine wpAnyZ_done (by kernel_rfl) ?_ _
 obtain ⟨X5, hX5⟩ : ∃ X5, put7s w7 (w.heap.size + 1) (.int .i64 p.n) (.slice as1 p.st.r.length cs1) (.int .i64 p.st.q) (.int .i64 p.st.d) (.slice ap1 p.p.length cp1) (.slice at1 p.t.length ct1) (.slice aa1 p.a.length ca1) = X5 := ⟨_, rfl⟩
 have hP := Z_8.out.put7s (.int .i64 p.n) (.slice as1 p.st.r.length cs1) (.int .i64 p.st.q) (.int .i64 p.st.d) (.slice ap1 p.p.length cp1) (.slice at1 p.t.length ct1) (.slice aa1 p.a.length ca1)
 have ht := put7s_turns w7 (w.heap.size + 1) (.int .i64 p.n) (.slice as1 p.st.r.length cs1) (.int .i64 p.st.q) (.int .i64 p.st.d) (.slice ap1 p.p.length cp1) (.slice at1 p.t.length ct1) (.slice aa1 p.a.length ca1)
 rw [hX5] at hP ht
 unfold put7s at hX5
 rw [hX5]
 clear hX5
 go_wp2
 have t0 := hP.cell (i := 0) rfl
 have t1 := hP.cell (i := 1) rfl
 have t2 := hP.cell (i := 2) rfl
 have t3 := hP.cell (i := 3) rfl
 have t4 := hP.cell (i := 4) rfl
 have t5 := hP.cell (i := 5) rfl
 have t6 := hP.cell (i := 6) rfl
 refine bodyPost_ret (v := .agg #[.int .i64 p.n, .slice as1 p.st.r.length cs1, .int .i64 p.st.q, .int .i64 p.st.d, .slice ap1 p.p.length cp1, .slice at1 p.t.length ct1, .slice aa1 p.a.length ca1]) (by simp [results, Tryz.results78, go_sem, t0, t1, t2, t3, t4, t5, t6]) rfl ?_
 have hBs := B_8.out.size
 have hts := ht.size
 have hss := S_8.out
 have hTm : ∀ b, (.slice at1 p.t.length ct1 : Value).ownBlock = some b → w.heap.size ≤ b := fun b hb => by have := HLT.out b hb; omega
 have hAm : ∀ b, (.slice aa1 p.a.length ca1 : Value).ownBlock = some b → w.heap.size ≤ b := fun b hb => by have := HLA.out b hb; omega
 refine ⟨_, _, _, _, (fun b => (.slice as1 p.st.r.length cs1 : Value).ownBlock = some b), (fun k => w1.heap.size ≤ k ∧ k < w3.heap.size), rfl, (HBw.out.trans (B_8.out.mono (by omega))).trans (ht.to_below (fun k e => by omega) (by omega)), ?_, ?_, ?_, ?_, ?_, ?_, ?_⟩
 ·exact (own_rowF (by rw [intCells_length]; omega) (owns_turns S_8.out ht (fun b hb e => by have := HLS.out b hb; omega))).own
 ·exact P_8.out.turns ht (fun b hb e => by omega)
 ·exact owns_base (owns_turns T_8.out ht (fun b hb e => by have := HLT.out b hb; omega)) hTm
 ·exact owns_base (owns_turns A_8.out ht (fun b hb e => by have := HLA.out b hb; omega)) hAm
 ·exact fun b hb => ⟨by have := HLS.out b hb; omega, fun e => by have := HLS.out b hb; omega, fun e => by have := HLS.out b hb; have := HLT.out b e; omega, fun e => by have := HLS.out b hb; have := HLA.out b e; omega⟩
 ·exact fun b hb => ⟨by omega, fun e => by have := HLT.out b e; omega, fun e => by have := HLA.out b e; omega⟩
 ·exact fun b hb e => by have := HLT.out b hb; have := HLA.out b e; omega
end Go.Proofs.YtnccenbkpocjgaaGreat
/- The program's doerWith, doerOf. -/
namespace Go.Proofs.YtnccenbkpocjgaaGreat
open Go.RowKit
theorem hidPDw {p : Prop} (h : p) : Hid p := h
theorem CpR.forms {B : Nat} {w : World} {vr vp vt va : Value} {A1 A4 : Nat → Prop} {p : Pa} (h : CpR B w vr vp vt va A1 A4 p) : ∃ a1 c1 a4 c4 a5 c5 a6 c6, vr = .slice a1 p.st.r.length c1 ∧ vp = .slice a4 p.p.length c4 ∧ vt = .slice a5 p.t.length c5 ∧ va = .slice a6 p.a.length c6 := by
  obtain ⟨a1, c1, e1, _⟩ := OwnD.parts (c := 1) (n := p.st.r.length) h.regs
  obtain ⟨a4, c4, e4, _⟩ := OwnD.parts (c := 12) (n := p.p.length) h.past
  obtain ⟨a5, c5, e5⟩ := owns_slice h.todo
  obtain ⟨a6, c6, e6⟩ := owns_slice h.antis
  exact ⟨a1, c1, a4, c4, a5, c5, a6, c6, e1, e4, e5, e6⟩
theorem CpR.revd {B : Nat} {w w' : World} {vr vp vt va : Value} {A1 A4 : Nat → Prop} {p : Pa} (h : CpR B w vr vp vt va A1 A4 p) (ho : w'.ownsRow B 55 7 vt p.t.reverse.length (cellsL p.t.reverse)) (ht : Turns (fun k => vt.ownBlock = some k) w w') : CpR B w' vr vp vt va A1 A4 p.rev :=
  ⟨h.regs.turns ht (fun k hk hs => (h.d1 k hk).2.2.1 hs), h.past.turns ht (fun k hk hs => (h.d4 k hk).2.1 hs), ho, owns_turns h.antis ht (fun k hk hs => h.d5 k hs hk),
   fun k hk => ⟨⟨(h.d1 k hk).1.1, Nat.lt_of_lt_of_le (h.d1 k hk).1.2 ht.size⟩, (h.d1 k hk).2⟩, fun k hk => ⟨⟨(h.d4 k hk).1.1, Nat.lt_of_lt_of_le (h.d4 k hk).1.2 ht.size⟩, (h.d4 k hk).2⟩, h.d5⟩
set_option maxRecDepth 100000 in
set_option maxHeartbeats 8000000 in
theorem doerWith_any (B : Nat) (vr vp vt va : Value) (A1 A4 : Nat → Prop) (p : Pa) (w : World) (hB : B ≤ w.heap.size) (hl : p.t.length ≤ 1048577) (h : CpR B w vr vp vt va A1 A4 p) :
    Calls Tryz.prog 119 #[.agg #[.int .i64 p.n, vr, .int .i64 p.st.q, .int .i64 p.st.d, vp, vt, va]] w fun r w' => ∃ D, r = .returned (.pointer (some ⟨D, 0, none⟩)) ∧ DoR B D w' vr vp vt va (.slice none 0 0) A1 A4 p.rev [] ∧ (w.heap.size ≤ D ∧ D < w'.heap.size) ∧ Turns (fun k => vt.ownBlock = some k) w w' := by
  have HH := hidPDw h
  obtain ⟨a1, c1, a4, c4, a5, c5, a6, c6, rfl, rfl, rfl, rfl⟩ := h.forms
  obtain ⟨W0, hW0⟩ : ∃ W0, w.alloc (.cells #[.int .i64 p.n, .slice a1 p.st.r.length c1, .int .i64 p.st.q, .int .i64 p.st.d, .slice a4 p.p.length c4, .slice a5 p.t.length c5, .slice a6 p.a.length c6] 33) = W0 := ⟨_, rfl⟩
  have HP0 : Hid (Bk W0 w.heap.size 33 #[.int .i64 p.n, .slice a1 p.st.r.length c1, .int .i64 p.st.q, .int .i64 p.st.d, .slice a4 p.p.length c4, .slice a5 p.t.length c5, .slice a6 p.a.length c6]) := hW0 ▸ Bk.new _ _ _
  have HB0 : Hid (Below w.heap.size w W0) := hW0 ▸ (Below.refl _ w).alloc (Nat.le_refl _) _
  have HC0 := hidPDw (HH.out.below HB0.out)
  have hs0 : w.heap.size < W0.heap.size := HP0.out.lt
  have x5 := HP0.out.cell (i := 5) rfl
  clear h
  go_enter Tryz.func119, Tryz.ntmps119
  go_wp2_with fail
  clear hW0 x5
  refine (rev_any B _ p.t W0 hl HC0.out.todo).mono ?_
  rintro r w1 ⟨⟨u, rfl⟩, ho, ht⟩
  have HP1 := hidPDw (HP0.out.turns ht (owns_ne HC0.out.todo HP0.out (by decide)))
  have HC1 := hidPDw (HC0.out.revd ho ht)
  have HT1 := hidPDw ((Turns.of_below HB0.out).trans ht)
  have hs1 : W0.heap.size ≤ w1.heap.size := ht.size
  have x0 := HP1.out.cell (i := 0) rfl
  have x1 := HP1.out.cell (i := 1) rfl
  have x2 := HP1.out.cell (i := 2) rfl
  have x3 := HP1.out.cell (i := 3) rfl
  have x4 := HP1.out.cell (i := 4) rfl
  have x5 := HP1.out.cell (i := 5) rfl
  have x6 := HP1.out.cell (i := 6) rfl
  clear ho ht HP0 HC0
  obtain ⟨W2, hW2⟩ : ∃ W2, w1.alloc (.cells #[.slice a1 p.st.r.length c1, .int .i64 p.st.q, .int .i64 p.st.d, .int .i64 p.n, .slice a4 p.p.length c4, .slice a5 p.t.length c5, .slice a6 p.a.length c6, .slice none 0 0] 157) = W2 := ⟨_, rfl⟩
  have HD2 : Hid (Bk W2 w1.heap.size 157 #[.slice a1 p.st.r.length c1, .int .i64 p.st.q, .int .i64 p.st.d, .int .i64 p.n, .slice a4 p.p.length c4, .slice a5 p.t.length c5, .slice a6 p.a.length c6, .slice none 0 0]) := hW2 ▸ Bk.new _ _ _
  have HB2 : Hid (Below w1.heap.size w1 W2) := hW2 ▸ (Below.refl _ w1).alloc (Nat.le_refl _) _
  have HW2 : Hid _ := hW2
  clear hW2
  go_wp2
  try rw [HW2.out]
  go_ret
  refine ⟨w1.heap.size, rfl, ⟨HC1.out.below HB2.out, World.ownsRow_nil W2 B _ 7, HD2.out, fun k e => by simp [Value.ownBlock] at e, ⟨fun e => by have := (HC1.out.d1 _ e).1; omega, fun e => by have := (HC1.out.d4 _ e).1; omega⟩, by omega⟩, ⟨by omega, HD2.out.lt⟩, HT1.out.trans (Turns.of_below HB2.out)⟩
set_option maxRecDepth 100000 in
set_option maxHeartbeats 8000000 in
theorem doerOf_any (x : Value) (p : Pa) (w : World) (hw : p.wt ≤ 1048576) (h : IsPart w x p) :
    Calls Tryz.prog 65 #[x] w fun r w' => ∃ D vr vp vt va A1 A4, r = .returned (.pointer (some ⟨D, 0, none⟩)) ∧ DoR w.heap.size D w' vr vp vt va (.slice none 0 0) A1 A4 p.rev [] ∧ Below w.heap.size w w' := by
  have HI : Hid (IsPart w x p) := h
  have HWT : Hid (p.wt ≤ 1048576) := hw
  obtain ⟨u1, u4, u5, u6, rfl, d1, d4, d5, d6⟩ := h
  obtain ⟨W0, hW0⟩ : ∃ W0, w.alloc (.cells #[.int .i64 p.n, u1, .int .i64 p.st.q, .int .i64 p.st.d, u4, u5, u6] 33) = W0 := ⟨_, rfl⟩
  have HP0 : Hid (Bk W0 w.heap.size 33 #[.int .i64 p.n, u1, .int .i64 p.st.q, .int .i64 p.st.d, u4, u5, u6]) := hW0 ▸ Bk.new _ _ _
  have HB0 : Hid (Below w.heap.size w W0) := hW0 ▸ (Below.refl _ w).alloc (Nat.le_refl _) _
  have x0 := HP0.out.cell (i := 0) rfl
  have x1 := HP0.out.cell (i := 1) rfl
  have x2 := HP0.out.cell (i := 2) rfl
  have x3 := HP0.out.cell (i := 3) rfl
  have x4 := HP0.out.cell (i := 4) rfl
  have x5 := HP0.out.cell (i := 5) rfl
  have x6 := HP0.out.cell (i := 6) rfl
  clear d1 d4 d5 d6 hw
  go_enter Tryz.func65, Tryz.ntmps65
  go_wp2_with fail
  clear hW0 x0 x1 x2 x3 x4 x5 x6
  refine (copyPart_own _ p W0 (by have := HWT.out; omega) (HI.out.under HB0.out)).mono ?_
  rintro r w1 ⟨vr, vp, vt, va, A1, A4, rfl, hb, hc⟩
  have HB1 := hidPDw (HB0.out.trans (hb.mono HB0.out.size))
  have HC1 := hidPDw hc
  have hs1 : W0.heap.size ≤ w1.heap.size := hb.size
  have hs0 : w.heap.size ≤ W0.heap.size := HB0.out.size
  clear hb hc HP0
  go_wp2_with fail
  refine (doerWith_any W0.heap.size vr vp vt va A1 A4 p w1 hs1 (by have h9 := HWT.out; unfold Pa.wt at h9; rw [evs_wt] at h9; omega) HC1.out).mono ?_
  rintro r w2 ⟨D, rfl, hD, hDl, ht⟩
  have HD := hidPDw hD
  have HB2 := hidPDw (HB1.out.trans (ht.to_below (fun k e => by have := row_ge HC1.out.todo e; omega) HB1.out.size))
  clear hD ht
  go_wp2
  go_ret
  have hd := HD.out
  exact ⟨D, vr, vp, vt, va, A1, A4, rfl, ⟨⟨hd.cp.regs, hd.cp.past, owns_mono hd.cp.todo hs0, owns_mono hd.cp.antis hs0, fun k hk => ⟨⟨by have := (hd.cp.d1 k hk).1; omega, (hd.cp.d1 k hk).1.2⟩, (hd.cp.d1 k hk).2⟩, fun k hk => ⟨⟨by have := (hd.cp.d4 k hk).1; omega, (hd.cp.d4 k hk).1.2⟩, (hd.cp.d4 k hk).2⟩, hd.cp.d5⟩, World.ownsRow_nil _ _ _ _, hd.blk, hd.du, hd.dD, by have := hd.lo; omega⟩, HB2.out⟩
end Go.Proofs.YtnccenbkpocjgaaGreat
