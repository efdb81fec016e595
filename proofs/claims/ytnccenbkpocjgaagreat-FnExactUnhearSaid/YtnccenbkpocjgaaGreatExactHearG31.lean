/- PCq, PTd, PTe, PBt, SlG -/
import Derived.Test.YtnccenbkpocjgaaGreatExactHearG30
import Derived.Test.YtnccenbkpocjgaaGreatExactHearLPBs
import Derived.Test.YtnccenbkpocjgaaGreatExactHearG11
import Derived.Shelf.Spec.SlicesInsertGrow
import Derived.Laws.CopyRow
import Derived.Lib.Overlaps
/- The program's copy of a part: all of it in memory of its own. -/
namespace Go.Proofs.YtnccenbkpocjgaaGreat
open Go.RowKit
theorem tzPCq {P : Program} {md : Region.Mode} {ops : Array Oper} {Q : Exit → Act → World → Prop} {S : World → Prop} {z fuel : Nat} {listed : Array Bool} {a : Act} {w : World} (i : Nat) (oi : Oper) (v : Value)
 (h : wpAnyZ P md ops Q S z fuel (listed.setIfInBounds i true) (a.put oi.dst v) w) (hi : ops[i]? = some oi := by rfl)
 (hs : Region.noSelect ops = true := by kernel_rfl) (hf : Region.free md ops listed i = true := by kernel_rfl) (hr : (Region.ready md ops listed).contains i = true := by kernel_rfl)
 (hc : chainB md ops i z [i] = true := by kernel_rfl) (hu : [i].all (fun p => !listed.getD p true) = true := by kernel_rfl)
 (hQ : ∀ c a w, Q (.panic c) (a.put oi.dst v) w → Q (.panic c) a w := by exact fun _ _ _ h => h)
 (hy : YieldsIf P ops S oi v a := by exact Or.inl ⟨by rfl, by (intro wX hSw; (try dsimp only at hSw); go_simp; (try exact IntWalk.i64_in _ (by omega)))⟩) (hS : S w := by assumption) : wpAnyZ P md ops Q S z (fuel + 1) listed a w :=
 wpAnyZ_take i [] hi hs hf hr hc hu hQ hy hS h
theorem hidPCq {p : Prop} (h : p) : Hid p := h
set_option maxRecDepth 100000 in
set_option maxHeartbeats 16000000 in
theorem copyPart_any (x : Value) (p : Pa) (w : World) (hw : p.wt ≤ 1048577) (h : IsPart w x p) :
  Calls Tryz.prog 78 #[x] w fun r w' => ∃ y, r = .returned y ∧ Below w.heap.size w w' ∧ PartF (fun k => w.heap.size ≤ k ∧ k < w'.heap.size) w' y p := by
 obtain ⟨u1, u4, u5, u6, rfl, d1, d4, d5, d6⟩ := h
 obtain ⟨a1, c1, rfl, _⟩ := IsD.len d1
 obtain ⟨a4, c4, rfl, _⟩ := IsD.len d4
 obtain ⟨a5, c5, rfl, _⟩ := IsD.len d5
 obtain ⟨a6, c6, rfl, _⟩ := IsD.len d6
 have hwt : p.t.length ≤ 1048577 ∧ p.a.length ≤ 1048577 ∧ (pastsD p.p).wt ≤ 1048577 ∧ p.st.r.length ≤ 1048577 := by
  have e0 := ints_wt p.st.r
  have e1 := evs_wt p.t
  have e2 := ints_wt p.a
  unfold Pa.wt at hw
  omega
 obtain ⟨ht9, ha9, hp9, hr9⟩ := hwt
 obtain ⟨W0, hW0⟩ : ∃ W0, (w.alloc (.cells #[.int .i64 p.n, .slice a1 p.st.r.length c1, .int .i64 p.st.q, .int .i64 p.st.d, .slice a4 p.p.length c4, .slice a5 p.t.length c5, .slice a6 p.a.length c6] 33)).alloc (.cells #[.int .i64 0, .slice none 0 0, .int .i64 0, .int .i64 0, .slice none 0 0, .slice none 0 0, .slice none 0 0] 33) = W0 := ⟨_, rfl⟩
 have hz0 : W0.heap.size = w.heap.size + 1 + 1 := by rw [← hW0]; simp
 have hb0 : Below w.heap.size w W0 := hW0 ▸ ((Below.refl _ w).alloc (Nat.le_refl _) _).alloc (by simp) _
 have HBw := hidPCq hb0
 have HW0 := hidPCq hW0
 have BX : Hid (Bk W0 w.heap.size 33 #[.int .i64 p.n, .slice a1 p.st.r.length c1, .int .i64 p.st.q, .int .i64 p.st.d, .slice a4 p.p.length c4, .slice a5 p.t.length c5, .slice a6 p.a.length c6]) := hW0 ▸ (Bk.new w _ _).alloc _
 have BZ : Hid (Bk W0 (w.heap.size + 1) 33 #[.int .i64 0, .slice none 0 0, .int .i64 0, .int .i64 0, .slice none 0 0, .slice none 0 0, .slice none 0 0]) := hW0 ▸ Bk.newAt (by simp) _ _
 have D1 := hidPCq (d1.under hb0)
 have D4 := hidPCq (d4.under hb0)
 have D5 := hidPCq (d5.under hb0)
 have D6 := hidPCq (d6.under hb0)
 have hz0' : W0.heap.size ≤ w.heap.size + 1 + 1 ∧ w.heap.size + 1 + 1 ≤ W0.heap.size := by omega
 clear hW0 hb0 d1 d4 d5 d6 hw hz0
 go_enter Tryz.func78, Tryz.ntmps78
 go_wp2_with fail
 rw [HW0.out]
 clear HW0
 have hzd : W0.drew.heap.size ≤ W0.heap.size ∧ W0.heap.size ≤ W0.drew.heap.size := ⟨Nat.le_refl _, Nat.le_refl _⟩
 have B_0 : Hid (Below W0.heap.size W0 W0.drew) := (Below.refl _ W0).drew
 have X_0 := hidPCq BX.out.drew
 have Z_0 := hidPCq BZ.out.drew
 have D1_0 := hidPCq (D1.out.under (Below.refl _ W0).drew)
 have D4_0 := hidPCq (D4.out.under (Below.refl _ W0).drew)
 have D5_0 := hidPCq (D5.out.under (Below.refl _ W0).drew)
 have D6_0 := hidPCq (D6.out.under (Below.refl _ W0).drew)
 have Q_0 : Hid (W0.drew.cell? ⟨w.heap.size, 0, none⟩ = some (.int .i64 p.n) ∧ W0.drew.cell? ⟨w.heap.size, 1, none⟩ = some (.slice a1 p.st.r.length c1) ∧ W0.drew.cell? ⟨w.heap.size, 2, none⟩ = some (.int .i64 p.st.q) ∧ W0.drew.cell? ⟨w.heap.size, 3, none⟩ = some (.int .i64 p.st.d) ∧ W0.drew.cell? ⟨w.heap.size, 4, none⟩ = some (.slice a4 p.p.length c4) ∧ W0.drew.cell? ⟨w.heap.size, 5, none⟩ = some (.slice a5 p.t.length c5) ∧ W0.drew.cell? ⟨w.heap.size, 6, none⟩ = some (.slice a6 p.a.length c6)) := ⟨X_0.out.cell rfl, X_0.out.cell rfl, X_0.out.cell rfl, X_0.out.cell rfl, X_0.out.cell rfl, X_0.out.cell rfl, X_0.out.cell rfl⟩
 clear BX BZ D1 D4 D5 D6
 refine wp_region_z 15 (fun W => W.cell? ⟨w.heap.size, 0, none⟩ = some (.int .i64 p.n) ∧ W.cell? ⟨w.heap.size, 1, none⟩ = some (.slice a1 p.st.r.length c1) ∧ W.cell? ⟨w.heap.size, 2, none⟩ = some (.int .i64 p.st.q) ∧ W.cell? ⟨w.heap.size, 3, none⟩ = some (.int .i64 p.st.d) ∧ W.cell? ⟨w.heap.size, 4, none⟩ = some (.slice a4 p.p.length c4) ∧ W.cell? ⟨w.heap.size, 5, none⟩ = some (.slice a5 p.t.length c5) ∧ W.cell? ⟨w.heap.size, 6, none⟩ = some (.slice a6 p.a.length c6)) (by kernel_rfl) Q_0.out (fun hHeld => ?_)
 refine tzPCq 0 { dst := some 3, op := Op.fieldAddr 33 (Operand.tmp 1) 0, type := 0, pos := _, after := _, guard := none } (.pointer (some ⟨w.heap.size, 0, none⟩)) ?_
 try simp only [Act.put, List.setIfInBounds_toArray, List.set_cons_zero, List.set_cons_succ]
 refine tzPCq 1 { dst := some 4, op := Op.load 3 (Operand.tmp 3), type := 3, pos := _, after := _, guard := none } (.int .i64 p.n) ?_
 try simp only [Act.put, List.setIfInBounds_toArray, List.set_cons_zero, List.set_cons_succ]
 refine tzPCq 2 { dst := some 5, op := Op.fieldAddr 33 (Operand.tmp 1) 1, type := 0, pos := _, after := _, guard := none } (.pointer (some ⟨w.heap.size, 1, none⟩)) ?_
 try simp only [Act.put, List.setIfInBounds_toArray, List.set_cons_zero, List.set_cons_succ]
 refine tzPCq 3 { dst := some 6, op := Op.load 29 (Operand.tmp 5), type := 29, pos := _, after := _, guard := none } (.agg #[.slice a1 p.st.r.length c1, .int .i64 p.st.q, .int .i64 p.st.d]) ?_
 try simp only [Act.put, List.setIfInBounds_toArray, List.set_cons_zero, List.set_cons_succ]
 refine tzPCq 5 { dst := some 8, op := Op.fieldAddr 33 (Operand.tmp 1) 2, type := 0, pos := _, after := _, guard := none } (.pointer (some ⟨w.heap.size, 4, none⟩)) ?_
 try simp only [Act.put, List.setIfInBounds_toArray, List.set_cons_zero, List.set_cons_succ]
 refine tzPCq 6 { dst := some 9, op := Op.load 30 (Operand.tmp 8), type := 30, pos := _, after := _, guard := none } (.slice a4 p.p.length c4) ?_
 try simp only [Act.put, List.setIfInBounds_toArray, List.set_cons_zero, List.set_cons_succ]
 refine tzPCq 8 { dst := some 11, op := Op.fieldAddr 33 (Operand.tmp 1) 3, type := 0, pos := _, after := _, guard := none } (.pointer (some ⟨w.heap.size, 5, none⟩)) ?_
 try simp only [Act.put, List.setIfInBounds_toArray, List.set_cons_zero, List.set_cons_succ]
 refine tzPCq 9 { dst := some 12, op := Op.load 31 (Operand.tmp 11), type := 31, pos := _, after := _, guard := none } (.slice a5 p.t.length c5) ?_
 try simp only [Act.put, List.setIfInBounds_toArray, List.set_cons_zero, List.set_cons_succ]
 refine tzPCq 11 { dst := some 14, op := Op.fieldAddr 33 (Operand.tmp 1) 4, type := 0, pos := _, after := _, guard := none } (.pointer (some ⟨w.heap.size, 6, none⟩)) ?_
 try simp only [Act.put, List.setIfInBounds_toArray, List.set_cons_zero, List.set_cons_succ]
 refine tzPCq 12 { dst := some 15, op := Op.load 22 (Operand.tmp 14), type := 22, pos := _, after := _, guard := none } (.slice a6 p.a.length c6) ?_
 try simp only [Act.put, List.setIfInBounds_toArray, List.set_cons_zero, List.set_cons_succ]
 refine wpAnyZ_ready (rs := [4]) (by kernel_rfl) (by simp) ?_
 refine AllReadyZ.cons (o := { dst := some 7, op := Op.call { callee := Callee.value (Operand.func 134), args := #[Operand.tmp 6], argTypes := #[29] }, type := 29, pos := _, after := _, guard := none }) rfl (fun K hK => ?_) AllReadyZ.nil
 have hbs1 : W0.heap.size ≤ W0.drew.heap.size := B_0.out.size
 go_simp
 refine (snap_src _ _ p.st W0.drew hr9 rfl D1_0.out).mono ?_
 rintro e w1 ⟨vs1, rfl, hown, hb⟩
 obtain ⟨as1, cs1, hvs⟩ := owns_slice hown
 subst hvs
 have HLS := hidPCq (row_lim hown)
 have hz1 : W0.drew.heap.size ≤ w1.heap.size := hb.size
 have B_2 := hidPCq (B_0.out.trans (hb.mono B_0.out.size))
 have X_2 := hidPCq (X_0.out.below hb)
 have Z_2 := hidPCq (Z_0.out.below hb)
 have D4_2 := hidPCq (D4_0.out.under hb)
 have D5_2 := hidPCq (D5_0.out.under hb)
 have D6_2 := hidPCq (D6_0.out.under hb)
 clear B_0 X_0 Z_0 D1_0 D4_0 D5_0 D6_0
 have S_2 := hidPCq (owns_mono hown hbs1)
 clear hown hb
 have Q_2 : Hid (w1.cell? ⟨w.heap.size, 0, none⟩ = some (.int .i64 p.n) ∧ w1.cell? ⟨w.heap.size, 1, none⟩ = some (.slice a1 p.st.r.length c1) ∧ w1.cell? ⟨w.heap.size, 2, none⟩ = some (.int .i64 p.st.q) ∧ w1.cell? ⟨w.heap.size, 3, none⟩ = some (.int .i64 p.st.d) ∧ w1.cell? ⟨w.heap.size, 4, none⟩ = some (.slice a4 p.p.length c4) ∧ w1.cell? ⟨w.heap.size, 5, none⟩ = some (.slice a5 p.t.length c5) ∧ w1.cell? ⟨w.heap.size, 6, none⟩ = some (.slice a6 p.a.length c6)) := ⟨X_2.out.cell rfl, X_2.out.cell rfl, X_2.out.cell rfl, X_2.out.cell rfl, X_2.out.cell rfl, X_2.out.cell rfl, X_2.out.cell rfl⟩
 refine hK.out _ _ Q_2.out (fun hHeld => ?_)
 clear hK K
 try simp only [Act.put, List.setIfInBounds_toArray, List.set_cons_zero, List.set_cons_succ]
 refine wpAnyZ_ready (rs := [7]) (by kernel_rfl) (by simp) ?_
 refine AllReadyZ.cons (o := { dst := some 10, op := Op.call { callee := Callee.value (Operand.func 135), args := #[Operand.tmp 9], argTypes := #[30] }, type := 30, pos := _, after := _, guard := none }) rfl (fun K hK => ?_) AllReadyZ.nil
 have hbs3 : W0.heap.size ≤ w1.heap.size := B_2.out.size
 go_simp
 refine (copyPasts_any _ p.p w1 hp9 D4_2.out).mono ?_
 rintro e w3 ⟨vs1, rfl, hb, hown⟩
 obtain ⟨ap1, cp1, hvs, _⟩ := OwnD.parts (c := 12) (n := p.p.length) hown
 subst hvs
 have hz3 : w1.heap.size ≤ w3.heap.size := hb.size
 have B_4 := hidPCq (B_2.out.trans (hb.mono B_2.out.size))
 have X_4 := hidPCq (X_2.out.below hb)
 have Z_4 := hidPCq (Z_2.out.below hb)
 have D5_4 := hidPCq (D5_2.out.under hb)
 have D6_4 := hidPCq (D6_2.out.under hb)
 have S_4 := hidPCq (owns_turns S_2.out (Turns.of_below hb) (fun _ _ => id))
 clear B_2 X_2 Z_2 D4_2 D5_2 D6_2 S_2
 have P_4 := hidPCq hown
 clear hown hb
 have Q_4 : Hid (w3.cell? ⟨w.heap.size, 0, none⟩ = some (.int .i64 p.n) ∧ w3.cell? ⟨w.heap.size, 1, none⟩ = some (.slice a1 p.st.r.length c1) ∧ w3.cell? ⟨w.heap.size, 2, none⟩ = some (.int .i64 p.st.q) ∧ w3.cell? ⟨w.heap.size, 3, none⟩ = some (.int .i64 p.st.d) ∧ w3.cell? ⟨w.heap.size, 4, none⟩ = some (.slice a4 p.p.length c4) ∧ w3.cell? ⟨w.heap.size, 5, none⟩ = some (.slice a5 p.t.length c5) ∧ w3.cell? ⟨w.heap.size, 6, none⟩ = some (.slice a6 p.a.length c6)) := ⟨X_4.out.cell rfl, X_4.out.cell rfl, X_4.out.cell rfl, X_4.out.cell rfl, X_4.out.cell rfl, X_4.out.cell rfl, X_4.out.cell rfl⟩
 refine hK.out _ _ Q_4.out (fun hHeld => ?_)
 clear hK K
 try simp only [Act.put, List.setIfInBounds_toArray, List.set_cons_zero, List.set_cons_succ]
 refine wpAnyZ_ready (rs := [10]) (by kernel_rfl) (by simp) ?_
 refine AllReadyZ.cons (o := { dst := some 13, op := Op.call { callee := Callee.value (Operand.func 83), args := #[Operand.tmp 12], argTypes := #[31] }, type := 31, pos := _, after := _, guard := none }) rfl (fun K hK => ?_) AllReadyZ.nil
 have hbs5 : W0.heap.size ≤ w3.heap.size := B_4.out.size
 go_simp
 refine (copyEv_src _ p.t w3 ht9 D5_4.out.srcEv).mono ?_
 rintro e w5 ⟨vs1, rfl, hown, hb⟩
 obtain ⟨at1, ct1, hvs⟩ := owns_slice hown
 subst hvs
 have HLT := hidPCq (row_lim hown)
 have hz5 : w3.heap.size ≤ w5.heap.size := hb.size
 have B_6 := hidPCq (B_4.out.trans (hb.mono B_4.out.size))
 have X_6 := hidPCq (X_4.out.below hb)
 have Z_6 := hidPCq (Z_4.out.below hb)
 have D6_6 := hidPCq (D6_4.out.under hb)
 have S_6 := hidPCq (owns_turns S_4.out (Turns.of_below hb) (fun _ _ => id))
 have P_6 := hidPCq (P_4.out.under hb)
 clear B_4 X_4 Z_4 D5_4 D6_4 S_4 P_4
 have T_6 := hidPCq (owns_mono hown hbs5)
 clear hown hb
 have Q_6 : Hid (w5.cell? ⟨w.heap.size, 0, none⟩ = some (.int .i64 p.n) ∧ w5.cell? ⟨w.heap.size, 1, none⟩ = some (.slice a1 p.st.r.length c1) ∧ w5.cell? ⟨w.heap.size, 2, none⟩ = some (.int .i64 p.st.q) ∧ w5.cell? ⟨w.heap.size, 3, none⟩ = some (.int .i64 p.st.d) ∧ w5.cell? ⟨w.heap.size, 4, none⟩ = some (.slice a4 p.p.length c4) ∧ w5.cell? ⟨w.heap.size, 5, none⟩ = some (.slice a5 p.t.length c5) ∧ w5.cell? ⟨w.heap.size, 6, none⟩ = some (.slice a6 p.a.length c6)) := ⟨X_6.out.cell rfl, X_6.out.cell rfl, X_6.out.cell rfl, X_6.out.cell rfl, X_6.out.cell rfl, X_6.out.cell rfl, X_6.out.cell rfl⟩
 refine hK.out _ _ Q_6.out (fun hHeld => ?_)
 clear hK K
 try simp only [Act.put, List.setIfInBounds_toArray, List.set_cons_zero, List.set_cons_succ]
 refine wpAnyZ_ready (rs := [13]) (by kernel_rfl) (by simp) ?_
 refine AllReadyZ.cons (o := { dst := some 16, op := Op.call { callee := Callee.value (Operand.func 136), args := #[Operand.tmp 15], argTypes := #[22] }, type := 22, pos := _, after := _, guard := none }) rfl (fun K hK => ?_) AllReadyZ.nil
 have hbs7 : W0.heap.size ≤ w5.heap.size := B_6.out.size
 go_simp
 refine (copyI_src _ p.a w5 ha9 D6_6.out.srcI).mono ?_
 rintro e w7 ⟨vs1, rfl, hown, hb⟩
 obtain ⟨aa1, ca1, hvs⟩ := owns_slice hown
 subst hvs
 have HLA := hidPCq (row_lim hown)
 have hz7 : w5.heap.size ≤ w7.heap.size := hb.size
 have B_8 := hidPCq (B_6.out.trans (hb.mono B_6.out.size))
 have X_8 := hidPCq (X_6.out.below hb)
 have Z_8 := hidPCq (Z_6.out.below hb)
 have S_8 := hidPCq (owns_turns S_6.out (Turns.of_below hb) (fun _ _ => id))
 have P_8 := hidPCq (P_6.out.under hb)
 have T_8 := hidPCq (owns_turns T_6.out (Turns.of_below hb) (fun _ _ => id))
 clear B_6 X_6 Z_6 D6_6 S_6 P_6 T_6
 have A_8 := hidPCq (owns_mono hown hbs7)
 clear hown hb
 have Q_8 : Hid (w7.cell? ⟨w.heap.size, 0, none⟩ = some (.int .i64 p.n) ∧ w7.cell? ⟨w.heap.size, 1, none⟩ = some (.slice a1 p.st.r.length c1) ∧ w7.cell? ⟨w.heap.size, 2, none⟩ = some (.int .i64 p.st.q) ∧ w7.cell? ⟨w.heap.size, 3, none⟩ = some (.int .i64 p.st.d) ∧ w7.cell? ⟨w.heap.size, 4, none⟩ = some (.slice a4 p.p.length c4) ∧ w7.cell? ⟨w.heap.size, 5, none⟩ = some (.slice a5 p.t.length c5) ∧ w7.cell? ⟨w.heap.size, 6, none⟩ = some (.slice a6 p.a.length c6)) := ⟨X_8.out.cell rfl, X_8.out.cell rfl, X_8.out.cell rfl, X_8.out.cell rfl, X_8.out.cell rfl, X_8.out.cell rfl, X_8.out.cell rfl⟩
 refine hK.out _ _ Q_8.out (fun hHeld => ?_)
 clear hK K
 try simp only [Act.put, List.setIfInBounds_toArray, List.set_cons_zero, List.set_cons_succ]
 refine tzPCq 14 { dst := some 17, op := Op.build 33 #[(0, Operand.tmp 4), (1, Operand.tmp 7), (2, Operand.tmp 10), (3, Operand.tmp 13), (4, Operand.tmp 16)], type := 33, pos := _, after := _, guard := none } (.agg #[.int .i64 p.n, .slice as1 p.st.r.length cs1, .int .i64 p.st.q, .int .i64 p.st.d, .slice ap1 p.p.length cp1, .slice at1 p.t.length ct1, .slice aa1 p.a.length ca1]) ?_
 try simp only [Act.put, List.setIfInBounds_toArray, List.set_cons_zero, List.set_cons_succ]
 refine wpAnyZ_ready (rs := [15]) (by kernel_rfl) (by simp) ?_
 refine AllReadyZ.last (o := { dst := none, op := Op.store 33 (Operand.tmp 2) (Operand.tmp 17), type := 0, pos := _, after := _, guard := none }) rfl (fun K hK => ?_)
 have q0 := Z_8.out.cell (i := 0) rfl
 have q1 := Z_8.out.cell (i := 1) rfl
 have q2 := Z_8.out.cell (i := 2) rfl
 have q3 := Z_8.out.cell (i := 3) rfl
 have q4 := Z_8.out.cell (i := 4) rfl
 have q5 := Z_8.out.cell (i := 5) rfl
 have q6 := Z_8.out.cell (i := 6) rfl
 have qf := Z_8.out.free
 go_simp
 clear qf q0 q1 q2 q3 q4 q5 q6
 refine hK.out _ _ ?_
 clear hK K
 try simp only [Act.put, List.setIfInBounds_toArray, List.set_cons_zero, List.set_cons_succ]
 refine wpAnyZ_done (by kernel_rfl) ?_ _
 obtain ⟨X5, hX5⟩ : ∃ X5, put7s w7 (w.heap.size + 1) (.int .i64 p.n) (.slice as1 p.st.r.length cs1) (.int .i64 p.st.q) (.int .i64 p.st.d) (.slice ap1 p.p.length cp1) (.slice at1 p.t.length ct1) (.slice aa1 p.a.length ca1) = X5 := ⟨_, rfl⟩
 have hP := Z_8.out.put7s (.int .i64 p.n) (.slice as1 p.st.r.length cs1) (.int .i64 p.st.q) (.int .i64 p.st.d) (.slice ap1 p.p.length cp1) (.slice at1 p.t.length ct1) (.slice aa1 p.a.length ca1)
 have ht := put7s_turns w7 (w.heap.size + 1) (.int .i64 p.n) (.slice as1 p.st.r.length cs1) (.int .i64 p.st.q) (.int .i64 p.st.d) (.slice ap1 p.p.length cp1) (.slice at1 p.t.length ct1) (.slice aa1 p.a.length ca1)
 rw [hX5] at hP ht
 unfold put7s at hX5
 rw [hX5]
 clear hX5
 go_wp2
 have t0 := hP.cell (i := 0) rfl
 have t1 := hP.cell (i := 1) rfl
 have t2 := hP.cell (i := 2) rfl
 have t3 := hP.cell (i := 3) rfl
 have t4 := hP.cell (i := 4) rfl
 have t5 := hP.cell (i := 5) rfl
 have t6 := hP.cell (i := 6) rfl
 refine bodyPost_ret (v := .agg #[.int .i64 p.n, .slice as1 p.st.r.length cs1, .int .i64 p.st.q, .int .i64 p.st.d, .slice ap1 p.p.length cp1, .slice at1 p.t.length ct1, .slice aa1 p.a.length ca1]) (by simp [results, Tryz.results78, go_sem, t0, t1, t2, t3, t4, t5, t6]) rfl ?_
 have hBs := B_8.out.size
 have hts := ht.size
 refine ⟨_, rfl, (HBw.out.trans (B_8.out.mono (by omega))).trans (ht.to_below (fun k e => by omega) (by omega)), (fun b => (.slice as1 p.st.r.length cs1 : Value).ownBlock = some b), (fun k => w1.heap.size ≤ k ∧ k < w3.heap.size), (fun b => (.slice at1 p.t.length ct1 : Value).ownBlock = some b), (fun b => (.slice aa1 p.a.length ca1 : Value).ownBlock = some b), _, _, _, _, rfl, ?_, ?_, ?_, ?_, ?_, ?_, ?_, ?_⟩
 ·exact (own_rowF (by rw [intCells_length]; omega) (owns_turns S_8.out ht (fun b hb e => by have := HLS.out b hb; omega))).own
 ·exact P_8.out.turns ht (fun b hb e => by omega)
 ·exact (own_rowF (cellsL_length _) (owns_turns T_8.out ht (fun b hb e => by have := HLT.out b hb; omega))).own
 ·exact (own_rowF (by rw [intCells_length]; omega) (owns_turns A_8.out ht (fun b hb e => by have := HLA.out b hb; omega))).own
 ·exact fun b hb => ⟨by have := HLS.out b hb; omega, fun e => by have := HLS.out b hb; omega, fun e => by have := HLS.out b hb; have := HLT.out b e; omega, fun e => by have := HLS.out b hb; have := HLA.out b e; omega⟩
 ·exact fun b hb => ⟨by omega, fun e => by have := HLT.out b e; omega, fun e => by have := HLA.out b e; omega⟩
 ·exact fun b hb => ⟨by have := HLT.out b hb; omega, fun e => by have := HLT.out b hb; have := HLA.out b e; omega⟩
 ·exact fun b hb => by have := HLA.out b hb; omega
end Go.Proofs.YtnccenbkpocjgaaGreat

/- The program's Trim. -/
namespace Go.Proofs.YtnccenbkpocjgaaGreat
open Go.RowKit
end Go.Proofs.YtnccenbkpocjgaaGreat

/- Both Trim, as the law wants them. -/
namespace Go.Proofs.YtnccenbkpocjgaaGreat
open Go.RowKit
theorem none_wt : Pa.none.wt ≤ 1048576 := by
 have e1 : (intsD []).wt = 0 := ints_wt []
 have e2 : (evsD []).wt = 0 := evs_wt []
 have e3 : (pastsD []).wt = 0 := by rw [pastsD_wt]; rfl
 show (intsD []).wt + (pastsD []).wt + (evsD []).wt + (intsD []).wt ≤ 1048576
 rw [e1, e2, e3]; omega
end Go.Proofs.YtnccenbkpocjgaaGreat

/- The specification's Back. -/
namespace Go.Proofs.YtnccenbkpocjgaaGreat
open Go.RowKit
theorem nilE (w : World) : OwnD w (fun _ => False) (.slice none 0 0) (evsD []) := .nil _ _ _ _ _ (Nat.zero_le _)
theorem ownE {B : Nat} {w : World} {y : Value} {l : List Ev} (h : w.ownsRow B 55 7 y l.length (cellsL l)) : OwnD w (fun k => B ≤ k ∧ k < w.heap.size) y (evsD l) := (RowF.of_owns (cellsL_length l) h).own
end Go.Proofs.YtnccenbkpocjgaaGreat

/- Rows of one's own: what is copied into them, cleared, shifted. -/
namespace Go.Proofs.YtnccenbkpocjgaaGreat
open Go.RowKit
theorem run_copy_rowS {P : Program} (w : World) (dT sT ty elem : TypeId) (size g o dLen dCap : Nat) (a : Addr) (sLen sCap : Nat) (cur : Array Value) (t : TypeId) (cs : List Value)
  (hu : P.underlying dT = some (.slice elem)) (hs : (P.info? elem).map (·.size) = some size)
  (hg : w.heap[g]? = some (.cells cur t (0, 0))) (hn : cs.length = Nat.min sLen dLen * size)
  (hsrc : ∀ j v, cs[j]? = some v → w.cell? (a.add j) = some v) (hfit : o + cs.length ≤ cur.size) (h1 : ∀ v ∈ cs, v.oneCell' = true) :
  (Builtin.copy_ #[dT, sT] ty #[.slice (some ⟨g, o, none⟩) dLen dCap, .slice (some a) sLen sCap]).run P w =
   .ok (goInt (Nat.min sLen dLen : Nat)) (w.setRow g (cur.toList.take o ++ cs ++ cur.toList.drop (o + cs.length)).toArray) := by
 have hl := run_loadCells_list (P := P) w a cs hsrc
 have hst := run_storeCells_at P g o t cs 0 cur w hg (by simpa using hfit) h1
 cases hq : P.info? elem with
 | none => simp [hq] at hs
 | some i =>
  have hi : i.size = size := by simpa [hq] using hs
  simp [Builtin.copy_, run_underlying hu, Builtin.lenOf, Builtin.firstCells, sizeOf, typeInfo, hq, hi, ← hn, hl, hst]
theorem shift_list {L news : List Value} {a b c : Nat} (hlen : a + b + c ≤ L.length) (hn : news.length = c) :
  let L1 := L.take (a + c) ++ (L.drop a).take b ++ L.drop (a + c + ((L.drop a).take b).length)
  let L2 := L1.take a ++ news ++ L1.drop (a + news.length)
  L2.take (a + b + c) = L.take a ++ news ++ (L.drop a).take b ∧ L2.length = L.length := by
 have hb : ((L.drop a).take b).length = b := by rw [List.length_take, List.length_drop]; omega
 intro L1 L2
 have e1 : L1.take a = L.take a := by
  show (L.take (a + c) ++ (L.drop a).take b ++ _).take a = _
  rw [List.append_assoc, List.take_append_of_le_length (by rw [List.length_take]; omega), List.take_take, show min a (a + c) = a by omega]
 have e2 : L1.drop (a + news.length) = (L.drop a).take b ++ L.drop (a + c + b) := by
  show (L.take (a + c) ++ (L.drop a).take b ++ _).drop _ = _
  rw [List.append_assoc, hn, List.drop_append_of_le_length (by rw [List.length_take]; omega), hb]
  have : (L.take (a + c)).drop (a + c) = [] := List.drop_eq_nil_of_le (by rw [List.length_take]; omega)
  rw [this, List.nil_append]
 have e3 : L2 = (L.take a ++ news ++ (L.drop a).take b) ++ L.drop (a + c + b) := by
  show L1.take a ++ news ++ L1.drop (a + news.length) = _
  rw [e1, e2, List.append_assoc, List.append_assoc, List.append_assoc]
 have hl : (L.take a ++ news ++ (L.drop a).take b).length = a + b + c := by
  rw [List.length_append, List.length_append, hb, hn, List.length_take]; omega
 rw [e3]
 refine ⟨by rw [← hl]; exact List.take_left, ?_⟩
 rw [List.length_append, hl, List.length_drop]
 omega
theorem fill_list {R xs1 xs2 news : List Value} {a b c : Nat} (h1 : R.take a = xs1) (hlen : a + b + c ≤ R.length) (h2 : xs2.length = b) (hn : news.length = c) :
  let R1 := R.take a ++ news ++ R.drop (a + news.length)
  let R2 := R1.take (a + c) ++ xs2 ++ R1.drop (a + c + xs2.length)
  R2.take (a + b + c) = xs1 ++ news ++ xs2 ∧ R2.length = R.length ∧ R1.length = R.length := by
 have hx : xs1.length = a := by rw [← h1, List.length_take]; omega
 intro R1 R2
 have e0 : R1 = (xs1 ++ news) ++ R.drop (a + c) := by
  show R.take a ++ news ++ R.drop (a + news.length) = _
  rw [h1, hn]
 have hl0 : (xs1 ++ news).length = a + c := by rw [List.length_append, hx, hn]
 have e1 : R1.take (a + c) = xs1 ++ news := by rw [e0, ← hl0]; exact List.take_left
 have hR1 : R1.length = R.length := by rw [e0, List.length_append, hl0, List.length_drop]; omega
 have e2 : R2 = (xs1 ++ news ++ xs2) ++ R1.drop (a + c + b) := by
  show R1.take (a + c) ++ xs2 ++ R1.drop (a + c + xs2.length) = _
  rw [e1, h2]
 have hl : (xs1 ++ news ++ xs2).length = a + b + c := by rw [List.length_append, hl0, h2]; omega
 refine ⟨by rw [e2, ← hl]; exact List.take_left, ?_, hR1⟩
 rw [e2, List.length_append, hl, List.length_drop]
 omega
theorem owns_block {w : World} {B : Nat} {e : TypeId} {size n cap g : Nat} {xs : List Value} (h : w.ownsRow B e size (.slice (some ⟨g, 0, none⟩) n cap) n xs) : ∃ cur : Array Value, w.heap[g]? = some (.cells cur e (0, 0)) ∧ B ≤ g ∧ n ≤ cap ∧ cap ≤ maxLen ∧ cur.size = cap * size ∧ cur.toList.take (n * size) = xs := by
 rcases h.2 with ⟨h', _⟩ | ⟨g', cap', cur, h', h1, h2, h3, h4, h5, h6⟩
 ·cases h'
 ·cases h'
  exact ⟨cur, h2, h1, h3, h4, h5, h6⟩
theorem owns_of_block {w : World} {B : Nat} {e : TypeId} {size n cap g : Nat} {xs : List Value} {cur : Array Value} (h2 : w.heap[g]? = some (.cells cur e (0, 0))) (h1 : B ≤ g) (h3 : n ≤ cap) (h4 : cap ≤ maxLen) (h5 : cur.size = cap * size) (h6 : cur.toList.take (n * size) = xs) : w.ownsRow B e size (.slice (some ⟨g, 0, none⟩) n cap) n xs := by
 refine ⟨?_, .inr ⟨g, cap, cur, rfl, h1, h2, h3, h4, h5, h6⟩⟩
 rw [← h6, List.length_take, Array.length_toList, h5]
 exact Nat.min_eq_left (Nat.mul_le_mul_right _ h3)
theorem owns_less {w : World} {B : Nat} {e : TypeId} {size n cap g i : Nat} {xs : List Value} (h : w.ownsRow B e size (.slice (some ⟨g, 0, none⟩) n cap) n xs) (hi : i ≤ n) : w.ownsRow B e size (.slice (some ⟨g, 0, none⟩) i cap) i (xs.take (i * size)) := by
 obtain ⟨cur, h2, h1, h3, h4, h5, h6⟩ := owns_block h
 refine owns_of_block h2 h1 (by omega) h4 h5 ?_
 rw [← h6, List.take_take, Nat.min_eq_left (Nat.mul_le_mul_right _ hi)]
theorem grownS_row {w : World} {g : Nat} {cs : Array Value} : w.grownBy (w.setRow g cs) (some g) := ⟨rfl, rfl, rfl, by simp, fun k _ hk => setRow_other w g k _ (fun e => hk (by rw [e]))⟩
theorem grownS_row2 {w w' : World} {g : Nat} {cs : Array Value} (h : w.grownBy w' (some g)) : w.grownBy (w'.setRow g cs) (some g) := ⟨h.os, h.tape, h.output, by simpa using h.size, fun k hk hne => (setRow_other w' g k _ (fun e => hne (by rw [e]))).trans (h.block k hk hne)⟩
theorem step_append_run {P : Program} {ops : Array Oper} {o : Oper} {a : Act} {w : World} {K : Act → World → Prop} {Q : Exit → Act → World → Prop} {E : Prop}
  (hg : o.guard = none) (d x : Operand) (dT sT : TypeId) (hop : o.op = Op.call { callee := Callee.builtin Builtin.append, args := #[d, x], argTypes := #[dT, sT] })
  (v u : Value) (hd : a.eval d = v) (hx : a.eval x = u) {v' : Value} {w' : World} (hr : (Builtin.append_ #[dT, sT] o.type #[v, u]).run P w = .ok v' w') (hK : K (a.put o.dst v') w') :
  if Region.wanted o (yielded ops a.tmps) = true then Oper.wp P o a w K Q else E := by
 have hw : Region.wanted o (yielded ops a.tmps) = true := by simp [Region.wanted, hg]
 rw [if_pos hw]
 unfold Oper.wp
 simp [execOp, hop, resolve, invoke, builtin, hd, hx, hr, Result.andThen]
 exact hK
theorem run_clear_one {P : Program} (w : World) (t e ty : TypeId) (z : Value) (ht : P.underlying t = some (.slice e)) (hv : ∀ w, (zeroValue e).run P w = .ok z w) (g o cp : Nat) (cur : Array Value) (zs : List Value) (hzc : (Builtin.zeroCells z.cells 1).toList = zs) (h1 : ∀ v ∈ zs, v.oneCell' = true)
  (hg : w.heap[g]? = some (.cells cur e (0, 0))) (hf : o + zs.length ≤ cur.size) :
  (Builtin.clear_ #[t] ty #[.slice (some ⟨g, o, none⟩) 1 cp]).run P w = .ok (.tuple #[]) (w.setRow g (cur.toList.take o ++ zs ++ cur.toList.drop (o + zs.length)).toArray) := by
 have hst := run_storeCells_at P g o e zs 0 cur w hg (by simpa using hf) h1
 simp only [Nat.add_zero] at hst
 simp [Builtin.clear_, run_underlying ht, hv, hzc, hst]
end Go.Proofs.YtnccenbkpocjgaaGreat

