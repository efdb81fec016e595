/- HDa, SlCe, PDu, PDb -/
import Derived.Test.YtnccenbkpocjgaaGreatExactUnhearG02
import Derived.Test.YtnccenbkpocjgaaGreatExactUnhearLSlIi
import Derived.Test.YtnccenbkpocjgaaGreatExactUnhearLPDt
import Derived.Lib.SliceRun
import Derived.Test.YtnccenbkpocjgaaGreatExactHearG31
import Derived.Test.YtnccenbkpocjgaaGreatExactHearLPBs
import Derived.Test.YtnccenbkpocjgaaGreatExactHearG11
import Derived.Test.YtnccenbkpocjgaaGreatExactHearG15
/- A doer: a tag that is not to be done goes, or comes. -/
namespace Go.Proofs.YtnccenbkpocjgaaGreat
open Go.RowKit
theorem iOnes (l : List Int) : ∀ u ∈ intCells l, u.oneCell' = true := by
 intro u hu
 obtain ⟨z, _, rfl⟩ := List.mem_map.1 hu
 rfl
theorem DoR.setA {B D : Nat} {w w2 : World} {vr vp vt va va' vu : Value} {A1 A4 : Nat → Prop} {p : Pa} {u : List Ev} {l : List Int} (h : DoR B D w vr vp vt va vu A1 A4 p u) (ht : Turns (fun k => va.ownBlock = some k) w w2) (ho : w2.ownsRow B 3 1 va' l.length (intCells l)) (hn : NewRow w va va') (X : World) (hX : w2.setCell ⟨D, 6, none⟩ va' = X) :
  DoR B D X vr vp vt va' vu A1 A4 ⟨p.n, p.st, p.p, p.t, l⟩ u ∧ Turns (fun k => k = D ∨ va.ownBlock = some k) w X := by
 have hnD : va.ownBlock ≠ some D := h.neT.2.1
 have hb2 : Bk w2 D 157 #[vr, .int .i64 p.st.q, .int .i64 p.st.d, .int .i64 p.n, vp, vt, va, vu] := h.blk.turns ht hnD
 have hb3 : Bk X D 157 #[vr, .int .i64 p.st.q, .int .i64 p.st.d, .int .i64 p.n, vp, vt, va', vu] := by rw [← hX]; exact hb2.put 6 _
 have t3 : Turns (fun k => k = D) w2 X := by rw [← hX]; exact put1_turns w2 D 6 va'
 have hn' : va'.ownBlock ≠ some D := owns_ne ho hb2 (by decide)
 have tt : Turns (fun k => k = D ∨ va.ownBlock = some k) w X := (ht.mono (fun k hk => .inr hk)).trans (t3.mono (fun k hk => .inl hk))
 have fresh : ∀ k, k < w.heap.size → va.ownBlock ≠ some k → va'.ownBlock ≠ some k := fun k hk hne e => by
  rcases hn with h1 | h1
  ·exact hne (h1 ▸ e)
  ·have := h1 k e; omega
 have hut : ∀ k, vt.ownBlock = some k → k < w.heap.size := fun k hk => owns_lt h.cp.todo hk
 have huu : ∀ k, vu.ownBlock = some k → k < w.heap.size := fun k hk => owns_lt h.und hk
 refine ⟨⟨⟨?_, ?_, ?_, ?_, ?_, ?_, ?_⟩, ?_, hb3, ?_, h.dD, h.lo⟩, tt⟩
 ·exact h.cp.regs.turns tt (fun k hk hs => hs.elim (fun e => h.dD.1 (e ▸ hk)) (h.cp.d1 k hk).2.2.2)
 ·exact h.cp.past.turns tt (fun k hk hs => hs.elim (fun e => h.dD.2 (e ▸ hk)) (h.cp.d4 k hk).2.2)
 ·exact owns_turns h.cp.todo tt (fun k hk hs => hs.elim (fun e => h.neT.1 (e ▸ hk)) (h.cp.d5 k hk))
 ·exact owns_turns ho t3 (fun k hk e => hn' (e ▸ hk))
 ·exact fun k hk => ⟨⟨(h.cp.d1 k hk).1.1, Nat.lt_of_lt_of_le (h.cp.d1 k hk).1.2 tt.size⟩, (h.cp.d1 k hk).2.1, (h.cp.d1 k hk).2.2.1, fresh k (h.cp.d1 k hk).1.2 (h.cp.d1 k hk).2.2.2⟩
 ·exact fun k hk => ⟨⟨(h.cp.d4 k hk).1.1, Nat.lt_of_lt_of_le (h.cp.d4 k hk).1.2 tt.size⟩, (h.cp.d4 k hk).2.1, fresh k (h.cp.d4 k hk).1.2 (h.cp.d4 k hk).2.2⟩
 ·exact fun k hk => fresh k (hut k hk) (h.cp.d5 k hk)
 ·exact owns_turns h.und tt (fun k hk hs => hs.elim (fun e => h.neT.2.2 (e ▸ hk)) (h.du k hk).2.2.2)
 ·exact fun k hk => ⟨(h.du k hk).1, (h.du k hk).2.1, (h.du k hk).2.2.1, fresh k (huu k hk) (h.du k hk).2.2.2⟩
end Go.Proofs.YtnccenbkpocjgaaGreat
/- Slices that are cut. -/
namespace Go.Proofs.YtnccenbkpocjgaaGreat
open Go.RowKit
theorem infoSle : (Tryz.prog.info? 55).map (fun i => (i.zero, i.size, i.bytes)) = some (some (.agg #[.int .i64 0, .int .i64 0, .int .i64 0, .int .i64 0, .int .i64 0, .int .i64 0, .int .i64 0]), 7, 56) := by kernel_rfl
theorem cutLe (a : Option Addr) (n cap k : Nat) (hk : k ≤ n) (w : World) : (Instr.sliceAt 31 (.slice a n cap) (some (.int .i64 (k : Int))) none none).run Tryz.prog w = .ok (sliced a k n cap 7) w := by
 obtain ⟨i0, hi, hz0, hz1, hz2⟩ := info_parts infoSle
 have hu : Tryz.prog.underlying 31 = some (.slice (Tryz.prog.elem 31)) := by kernel_rfl
 have he : Tryz.prog.elem 31 = 55 := by kernel_rfl
 rw [run_sliceAt_slice (h := hu), run_slice_l (ht := hu) (h0 := by omega) (h1 := by omega), he]
 simp [sizeOf, typeInfo, hi, hz1]
theorem cutHe (a : Option Addr) (n cap k : Nat) (hk : k ≤ cap) (w : World) : (Instr.sliceAt 31 (.slice a n cap) none (some (.int .i64 (k : Int))) none).run Tryz.prog w = .ok (sliced a 0 k cap 7) w := by
 obtain ⟨i0, hi, hz0, hz1, hz2⟩ := info_parts infoSle
 have hu : Tryz.prog.underlying 31 = some (.slice (Tryz.prog.elem 31)) := by kernel_rfl
 have he : Tryz.prog.elem 31 = 55 := by kernel_rfl
 rw [run_sliceAt_slice (h := hu), run_slice_h (ht := hu) (h0 := by omega) (h2 := by omega), he]
 simp [sizeOf, typeInfo, hi, hz1]
theorem cutTe (a : Option Addr) (n cap l h : Nat) (hl : l ≤ h) (hh : h ≤ cap) (w : World) : (Instr.sliceAt 31 (.slice a n cap) (some (.int .i64 (l : Int))) (some (.int .i64 (h : Int))) none).run Tryz.prog w = .ok (sliced a l h cap 7) w := by
 obtain ⟨i0, hi, hz0, hz1, hz2⟩ := info_parts infoSle
 have hu : Tryz.prog.underlying 31 = some (.slice (Tryz.prog.elem 31)) := by kernel_rfl
 have he : Tryz.prog.elem 31 = 55 := by kernel_rfl
 rw [run_sliceAt_slice (h := hu), run_slice_lh (ht := hu) (h0 := by omega) (h1 := by omega) (h2 := by omega), he]
 simp [sizeOf, typeInfo, hi, hz1]
theorem cutMe (a : Option Addr) (n cap l h m : Nat) (hl : l ≤ h) (hh : h ≤ m) (hm : m ≤ cap) (w : World) : (Instr.sliceAt 31 (.slice a n cap) (some (.int .i64 (l : Int))) (some (.int .i64 (h : Int))) (some (.int .i64 (m : Int)))).run Tryz.prog w = .ok (sliced a l h m 7) w := by
 obtain ⟨i0, hi, hz0, hz1, hz2⟩ := info_parts infoSle
 have hu : Tryz.prog.underlying 31 = some (.slice (Tryz.prog.elem 31)) := by kernel_rfl
 have he : Tryz.prog.elem 31 = 55 := by kernel_rfl
 rw [run_sliceAt_slice (h := hu), run_slice_lhm (ht := hu) (h0 := by omega) (h1 := by omega) (h2 := by omega) (h3 := by omega), he]
 simp [sizeOf, typeInfo, hi, hz1]
end Go.Proofs.YtnccenbkpocjgaaGreat
/- An event is pushed; a state takes another one's place. -/
namespace Go.Proofs.YtnccenbkpocjgaaGreat
open Go.RowKit
theorem tzPDu {P : Program} {md : Region.Mode} {ops : Array Oper} {Q : Exit → Act → World → Prop} {S : World → Prop} {z fuel : Nat} {listed : Array Bool} {a : Act} {w : World} (i : Nat) (oi : Oper) (v : Value)
 (h : wpAnyZ P md ops Q S z fuel (listed.setIfInBounds i true) (a.put oi.dst v) w) (hi : ops[i]? = some oi := by rfl)
 (hs : Region.noSelect ops = true := by kernel_rfl) (hf : Region.free md ops listed i = true := by kernel_rfl) (hr : (Region.ready md ops listed).contains i = true := by kernel_rfl)
 (hc : chainB md ops i z [i] = true := by kernel_rfl) (hu : [i].all (fun p => !listed.getD p true) = true := by kernel_rfl)
 (hQ : ∀ c a w, Q (.panic c) (a.put oi.dst v) w → Q (.panic c) a w := by exact fun _ _ _ h => h)
 (hy : YieldsIf P ops S oi v a := by exact Or.inl ⟨by rfl, by (intro wX hSw; (try dsimp only at hSw); go_simp; (try exact IntWalk.i64_in _ (by omega)))⟩) (hS : S w := by assumption) : wpAnyZ P md ops Q S z (fuel + 1) listed a w :=
 wpAnyZ_take i [] hi hs hf hr hc hu hQ hy hS h
theorem hidPDu {p : Prop} (h : p) : Hid p := h
set_option maxRecDepth 100000 in
set_option maxHeartbeats 16000000 in
theorem push_any (B D : Nat) (v0 v1 v2 v3 v4 vt v6 v7 : Value) (l : List Ev) (e : Ev) (w : World) (hBw : B ≤ w.heap.size) (hl : l.length + 1 ≤ 1048577) (hB : Bk w D 157 #[v0, v1, v2, v3, v4, vt, v6, v7]) (ho : w.ownsRow B 55 7 vt l.length (cellsL l)) :
  Calls Tryz.prog 170 #[.pointer (some ⟨D, 5, none⟩), e.val] w fun r w' => (∃ u, r = .returned u) ∧ ∃ vt', Bk w' D 157 #[v0, v1, v2, v3, v4, vt', v6, v7] ∧ w'.ownsRow B 55 7 vt' (l ++ [e]).length (cellsL (l ++ [e])) ∧ NewRow w vt vt' ∧ Turns (fun k => k = D ∨ vt.ownBlock = some k) w w' := by
 obtain ⟨ie, hie, hie0, hie1, hie2⟩ := info_parts infoEvE
 obtain ⟨a5, c5, rfl⟩ := owns_slice ho
 obtain ⟨W0, hW0⟩ : ∃ V, w.alloc (.cells #[.int .i64 e.t, .int .i64 e.s, .int .i64 e.q, .int .i64 e.d, .int .i64 e.k, .int .i64 e.v, .int .i64 e.g] 55) = V := ⟨_, rfl⟩
 have hb0 : Below w.heap.size w W0 := hW0 ▸ (Below.refl _ w).alloc (Nat.le_refl _) _
 have HB0 := hidPDu hb0
 have HD := hidPDu (hB.below hb0)
 have HE : Hid (Bk W0 w.heap.size 55 #[.int .i64 e.t, .int .i64 e.s, .int .i64 e.q, .int .i64 e.d, .int .i64 e.k, .int .i64 e.v, .int .i64 e.g]) := hW0 ▸ Bk.new _ _ _
 have HO := hidPDu (owns_turns (S := fun _ => False) ho (Turns.of_below hb0) (fun _ _ => id))
 have HNE : Hid (¬ (Value.slice a5 l.length c5).ownBlock = some w.heap.size) := fun e1 => by have := owns_lt ho e1; omega
 have hs0 : w.heap.size < W0.heap.size := HE.out.lt
 have hBV : B ≤ W0.heap.size := by omega
 have HW0 := hidPDu hW0
 clear hb0 hW0 hB ho
 go_enter Tryz.func170, Tryz.ntmps170
 go_upto_region 1 with fail
 rw [HW0.out]
 clear HW0
 refine wp_region_z 10 (fun W => W.cell? ⟨D, 5, none⟩ = some (.slice a5 l.length c5) ∧ W.cell? ⟨w.heap.size, 0, none⟩ = some (.int .i64 e.t) ∧ W.cell? ⟨w.heap.size, 1, none⟩ = some (.int .i64 e.s) ∧ W.cell? ⟨w.heap.size, 2, none⟩ = some (.int .i64 e.q) ∧ W.cell? ⟨w.heap.size, 3, none⟩ = some (.int .i64 e.d) ∧ W.cell? ⟨w.heap.size, 4, none⟩ = some (.int .i64 e.k) ∧ W.cell? ⟨w.heap.size, 5, none⟩ = some (.int .i64 e.v) ∧ W.cell? ⟨w.heap.size, 6, none⟩ = some (.int .i64 e.g)) (by kernel_rfl) ⟨HD.out.drew.cell rfl, HE.out.drew.cell rfl, HE.out.drew.cell rfl, HE.out.drew.cell rfl, HE.out.drew.cell rfl, HE.out.drew.cell rfl, HE.out.drew.cell rfl, HE.out.drew.cell rfl⟩ (fun hHeld => ?_)
 refine tzPDu 0 { dst := some 4, op := Op.move (Operand.tmp 0), type := 212, pos := _, after := _, guard := none } (.pointer (some ⟨D, 5, none⟩)) ?_
 try simp only [Act.put, List.setIfInBounds_toArray, List.set_cons_zero, List.set_cons_succ]
 refine tzPDu 1 { dst := some 5, op := Op.move (Operand.tmp 0), type := 212, pos := _, after := _, guard := none } (.pointer (some ⟨D, 5, none⟩)) ?_
 try simp only [Act.put, List.setIfInBounds_toArray, List.set_cons_zero, List.set_cons_succ]
 refine tzPDu 2 { dst := some 6, op := Op.nilCheck (Operand.tmp 5), type := 0, pos := _, after := _, guard := none } (.pointer (some ⟨D, 5, none⟩)) ?_
 try simp only [Act.put, List.setIfInBounds_toArray, List.set_cons_zero, List.set_cons_succ]
 refine tzPDu 3 { dst := some 7, op := Op.fieldAddr 155 (Operand.tmp 6) 0, type := 0, pos := _, after := _, guard := none } (.pointer (some ⟨D, 5, none⟩)) ?_
 try simp only [Act.put, List.setIfInBounds_toArray, List.set_cons_zero, List.set_cons_succ]
 refine tzPDu 4 { dst := some 8, op := Op.load 31 (Operand.tmp 7), type := 31, pos := _, after := _, guard := none } (.slice a5 l.length c5) ?_
 try simp only [Act.put, List.setIfInBounds_toArray, List.set_cons_zero, List.set_cons_succ]
 refine tzPDu 5 { dst := some 9, op := Op.load 55 (Operand.tmp 3), type := 55, pos := _, after := _, guard := none } (.agg #[.int .i64 e.t, .int .i64 e.s, .int .i64 e.q, .int .i64 e.d, .int .i64 e.k, .int .i64 e.v, .int .i64 e.g]) ?_
 try simp only [Act.put, List.setIfInBounds_toArray, List.set_cons_zero, List.set_cons_succ]
 refine wpAnyZ_ready (rs := [6]) (by kernel_rfl) (by simp) ?_
 refine AllReadyZ.cons (o := { dst := some 10, op := Op.buildSlice 31 1 #[(0, Operand.tmp 9)], type := 31, pos := _, after := _, guard := none }) rfl (fun K hK => ?_) AllReadyZ.nil
 obtain ⟨g1, hg1⟩ : ∃ g, g = W0.heap.size := ⟨_, rfl⟩
 obtain ⟨V1, hV1⟩ : ∃ V, (W0.alloc (.cells #[.int .i64 e.t, .int .i64 e.s, .int .i64 e.q, .int .i64 e.d, .int .i64 e.k, .int .i64 e.v, .int .i64 e.g] 55)).drew = V := ⟨_, rfl⟩
 have HV1 := hidPDu hV1
 have HG1 : Hid (g1 = W0.heap.size) := hg1
 have hbV : Below W0.heap.size W0 V1 := hV1 ▸ ((Below.refl _ W0).alloc (Nat.le_refl _) _).drew
 have HBV := hidPDu hbV
 have HD1 := hidPDu (HD.out.below hbV)
 have HE1 := hidPDu (HE.out.below hbV)
 have HO1 := hidPDu (owns_turns (S := fun _ => False) HO.out (Turns.of_below hbV) (fun _ _ => id))
 have HN1 : Hid (Bk V1 g1 55 #[.int .i64 e.t, .int .i64 e.s, .int .i64 e.q, .int .i64 e.d, .int .i64 e.k, .int .i64 e.v, .int .i64 e.g]) := by (rw [← hV1, hg1]; exact (Bk.new W0 _ _).drew)
 clear hV1 hg1 hbV
 go_simp
 rw [HV1.out, ← HG1.out]
 refine hK.out _ _ ⟨HD1.out.cell rfl, HE1.out.cell rfl, HE1.out.cell rfl, HE1.out.cell rfl, HE1.out.cell rfl, HE1.out.cell rfl, HE1.out.cell rfl, HE1.out.cell rfl⟩ (fun hHeld => ?_)
 clear hK K
 try simp only [Act.put, List.setIfInBounds_toArray, List.set_cons_zero, List.set_cons_succ]
 refine wpAnyZ_ready (rs := [7]) (by kernel_rfl) (by simp) ?_
 refine AllReadyZ.cons (o := { dst := some 11, op := Op.call { callee := Callee.builtin Builtin.append, args := #[Operand.tmp 8, Operand.tmp 10], argTypes := #[31, 31] }, type := 31, pos := _, after := _, guard := none }) rfl (fun K hK => ?_) AllReadyZ.nil
 refine step_append_src (w := V1) rfl (.tmp 8) (.tmp 10) 31 rfl B 55 ie (.agg #[.int .i64 0, .int .i64 0, .int .i64 0, .int .i64 0, .int .i64 0, .int .i64 0, .int .i64 0]) 7 56 Tryz.underlying31 hie hie0 hie1 hie2 rfl (by decide) (.slice a5 l.length c5) l.length (cellsL l) rfl HO1.out (.slice (some ⟨g1, 0, none⟩) 1 1) 1 e.cs rfl HN1.out.one (Ev.cs_one e) (by unfold maxLen; omega) (by omega) (Nat.le_trans hBV HBV.out.size) ?_
 intro vn w3 hown hgrow hnew
 obtain ⟨an, cn, hvn⟩ := owns_slice hown
 subst hvn
 have hgt := grown_turns hgrow
 have HD3 := hidPDu (HD1.out.turns hgt (owns_ne HO1.out HD1.out (by decide)))
 have HE3 := hidPDu (HE1.out.turns hgt (HNE.out))
 have HO3 := hidPDu hown
 have HT3 := hidPDu hgt
 have HNR := hidPDu hnew
 clear hown hgrow hnew hgt
 refine hK.out _ _ ⟨HD3.out.cell rfl, HE3.out.cell rfl, HE3.out.cell rfl, HE3.out.cell rfl, HE3.out.cell rfl, HE3.out.cell rfl, HE3.out.cell rfl, HE3.out.cell rfl⟩ (fun hHeld => ?_)
 clear hK K
 try simp only [Act.put, List.setIfInBounds_toArray, List.set_cons_zero, List.set_cons_succ]
 refine wpAnyZ_take (i := 8) (oi := { dst := some 12, op := Op.nilCheck (Operand.tmp 4), type := 0, pos := _, after := _, guard := none }) (v := .pointer (some ⟨D, 5, none⟩)) 9 [8] rfl (by kernel_rfl) (by kernel_rfl) (by kernel_rfl) (by kernel_rfl) (by kernel_rfl) (fun _ _ _ h => h) (Or.inl ⟨by rfl, ?_⟩) (by assumption) ?_
 ·intro wX hSw
  try dsimp only at hSw
  go_simp
  try exact IntWalk.i64_in _ (by omega)
 try simp only [Act.put, List.setIfInBounds_toArray, List.set_cons_zero, List.set_cons_succ]
 refine tzPDu 9 { dst := some 13, op := Op.fieldAddr 155 (Operand.tmp 12) 0, type := 0, pos := _, after := _, guard := none } (.pointer (some ⟨D, 5, none⟩)) ?_
 try simp only [Act.put, List.setIfInBounds_toArray, List.set_cons_zero, List.set_cons_succ]
 refine wpAnyZ_ready (rs := [10]) (by kernel_rfl) (by simp) ?_
 refine AllReadyZ.last (o := { dst := none, op := Op.store 31 (Operand.tmp 13) (Operand.tmp 11), type := 0, pos := _, after := _, guard := none }) rfl (fun K hK => ?_)
 have q5 := HD3.out.cell (i := 5) rfl
 have qf := HD3.out.free
 obtain ⟨X5, hX5⟩ : ∃ X5, w3.setCell ⟨D, 5, none⟩ (.slice an (l.length + 1) cn) = X5 := ⟨_, rfl⟩
 have hP := HD3.out.put 5 (.slice an (l.length + 1) cn)
 have ht := put1_turns w3 D 5 (.slice an (l.length + 1) cn)
 rw [hX5] at hP ht
 have HX5 : Hid _ := hX5
 have HD5 := hidPDu hP
 have HT5 := hidPDu ht
 clear hX5 hP ht
 go_simp
 clear q5 qf
 rw [HX5.out]
 refine hK.out _ _ ?_
 clear hK K
 try simp only [Act.put, List.setIfInBounds_toArray, List.set_cons_zero, List.set_cons_succ]
 refine wpAnyZ_done (by kernel_rfl) ?_ _
 clear hHeld
 go_wp2
 go_end0
 have hT : Turns (fun k => k = D ∨ (Value.slice a5 l.length c5).ownBlock = some k) w X5 := (((Turns.of_below HB0.out).trans (Turns.of_below HBV.out)).trans (HT3.out.mono (fun k e1 => .inr e1))).trans (HT5.out.mono (fun k e1 => .inl e1))
 have hOx := ownR_snoc (owns_turns HO3.out HT5.out (fun k hk e1 => owns_ne HO3.out HD3.out (by decide) (e1 ▸ hk)))
 refine ⟨⟨_, rfl⟩, _, HD5.out, hOx, ?_, hT⟩
 rcases HNR.out with h9 | h9
 ·exact .inl h9
 ·exact .inr (fun k hk => by have := h9 k hk; have := HBV.out.size; have := HB0.out.size; omega)
set_option maxRecDepth 100000 in
set_option maxHeartbeats 4000000 in
theorem become_any (D : Nat) (v0 v1 v2 v3 v4 v5 v6 v7 : Value) (a1 : Option Addr) (n1 c1 : Nat) (sq sd : Int) (w : World) (hB : Bk w D 157 #[v0, v1, v2, v3, v4, v5, v6, v7]) :
  Calls Tryz.prog 140 #[.pointer (some ⟨D, 0, none⟩), .agg #[.slice a1 n1 c1, .int .i64 sq, .int .i64 sd]] w fun r w' => (∃ u, r = .returned u) ∧ Bk w' D 157 #[.slice a1 n1 c1, .int .i64 sq, .int .i64 sd, v3, v4, v5, v6, v7] ∧ Turns (fun k => k = D) w w' := by
 obtain ⟨W0, hW0⟩ : ∃ V, w.alloc (.cells #[.slice a1 n1 c1, .int .i64 sq, .int .i64 sd] 29) = V := ⟨_, rfl⟩
 have hb0 : Below w.heap.size w W0 := hW0 ▸ (Below.refl _ w).alloc (Nat.le_refl _) _
 have HB0 := hidPDu hb0
 have HD := hidPDu (hB.below hb0)
 have HE : Hid (Bk W0 w.heap.size 29 #[.slice a1 n1 c1, .int .i64 sq, .int .i64 sd]) := hW0 ▸ Bk.new _ _ _
 have HW0 := hidPDu hW0
 have x0 := HE.out.cell (i := 0) rfl
 have x1 := HE.out.cell (i := 1) rfl
 have x2 := HE.out.cell (i := 2) rfl
 have y0 := HD.out.cell (i := 0) rfl
 have y1 := HD.out.cell (i := 1) rfl
 have y2 := HD.out.cell (i := 2) rfl
 have yf := HD.out.free
 obtain ⟨X5, hX5⟩ : ∃ X5, ((W0.setCell ⟨D, 0, none⟩ (.slice a1 n1 c1)).setCell ⟨D, 1, none⟩ (.int .i64 sq)).setCell ⟨D, 2, none⟩ (.int .i64 sd) = X5 := ⟨_, rfl⟩
 have hP := ((HD.out.put 0 (.slice a1 n1 c1)).put 1 (.int .i64 sq)).put 2 (.int .i64 sd)
 have ht := ((put1_turns W0 D 0 (.slice a1 n1 c1)).trans (put1_turns _ D 1 (.int .i64 sq))).trans (put1_turns _ D 2 (.int .i64 sd))
 rw [hX5] at hP ht
 have HX5 : Hid _ := hX5
 have HD5 := hidPDu hP
 have HT5 := hidPDu ht
 clear hX5 hP ht hb0 hW0 hB
 go_enter Tryz.func140, Tryz.ntmps140
 go_upto_region 1 with fail
 rw [HW0.out]
 clear HW0
 go_wp2
 try rw [HX5.out]
 go_end0
 exact ⟨⟨_, rfl⟩, HD5.out, (Turns.of_below HB0.out).trans HT5.out⟩
end Go.Proofs.YtnccenbkpocjgaaGreat
/- slices.Backward over events: what it hands to its loop. -/
namespace Go.Proofs.YtnccenbkpocjgaaGreat
open Go.RowKit Go.Shelf
attribute [local go_sem] Oper.semAt_some
abbrev bkArgs (l : List Ev) (x : Fin l.length) : Array Value := #[.int .i64 ((l.length : Int) - 1 - ((x.val : Nat) : Int)), (evAt l (l.length - 1 - x.val)).val]
def bkOf (l : List Ev) (pre : List (Fin l.length)) : List Ev := pre.map fun x => evAt l (l.length - 1 - x.val)
theorem bkOf_snoc (l : List Ev) (pre : List (Fin l.length)) (x : Fin l.length) : bkOf l (pre ++ [x]) = bkOf l pre ++ [evAt l (l.length - 1 - x.val)] := by simp [bkOf]
theorem bkOf_all (l : List Ev) : bkOf l (List.finRange l.length) = l.reverse := by
 refine ext_ev (by simp [bkOf]) (fun j hj => ?_)
 have hj' : j < l.length := by simpa [bkOf] using hj
 rw [evAt_rev l hj']
 unfold bkOf evAt
 simp [hj']
set_option maxRecDepth 100000 in
set_option maxHeartbeats 2000000 in
theorem back1_in (F : Fence) (n : Nat) (h49 : F.fn 202) (hro : F.round = none) (hn : 1 ≤ n) (lp Bs b off cap : Nat) (l : List Ev) (hreach : l.length ≤ 1048576) (J Jx : List (Fin l.length) → World → Prop)
  (hY : ∀ pre x W, J pre W → pre.length < l.length → YieldAt F (n - 1) Tryz.prog lp (bkArgs l x) W fun e W' =>
   (e = .returned (.bool true) ∧ J (pre ++ [x]) W' ∧ Same2 Bs b W W') ∨ (e = .returned (.bool false) ∧ Jx (pre ++ [x]) W'))
  (W : World) (hBs : W.cell? ⟨Bs, 0, none⟩ = some (.slice (some ⟨b, off, none⟩) l.length cap)) (hc : ∀ i, i < l.length → Ev.In W b (off + i * 7) (evAt l i)) (h0 : J [] W) :
  CallsIn F n Tryz.prog 202 #[.func (.yield lp) #[] #[], .pointer (some ⟨Bs, 0, none⟩)] W fun e W' => (∃ v, e = .returned v) ∧
   ((∃ ys, ys = List.finRange l.length ∧ J ys W') ∨ (∃ pre, (∃ k, k ≤ l.length ∧ pre = (List.finRange l.length).take k) ∧ Jx pre W')) := by
 refine callsIn_of_wp Tryz.func202 rfl h49 ?_ hro
 simp only [Tryz.ntmps202, List.size_toArray, List.length_cons, List.length_nil, Nat.reduceAdd, Nat.reduceSub, Array.replicate_succ, Array.replicate_zero, List.push_toArray, List.append_toArray, List.nil_append, List.cons_append]
 gi_wp2
 gi_loopw [3] (fun i wr => ∃ k : Nat, k ≤ l.length ∧ i = .int .i64 ((l.length : Int) - 1 - (k : Int)) ∧ J ((List.finRange l.length).take k) wr ∧ Same2 Bs b W wr)
  (fun i _ => (intOf i + 1).toNat)
 case atStart => exact ⟨0, Nat.zero_le _, by simp, by simpa using h0, Same2.refl _ _ _⟩
 case round =>
  obtain ⟨k, hk, rfl, hJs, hnx⟩ := hrel
  have hBs' : wr.cell? ⟨Bs, 0, none⟩ = some (.slice (some ⟨b, off, none⟩) l.length cap) := (hnx.cell1 0).trans hBs
  by_cases hlt : k < l.length
  ·have hy0 := hY _ ⟨k, hlt⟩ wr hJs (by rw [fin_take_length _ _ hk]; exact hlt)
   rw [← fin_take_succ _ _ hlt] at hy0
   obtain ⟨fn, tmps, assign, body, hy, hR⟩ := hy0
   simp only [bkArgs] at hy
   obtain ⟨m, hm⟩ : ∃ m, l.length - 1 - k = m := ⟨_, rfl⟩
   have HM : Hid (l.length - 1 - k = m) := hm
   have hmz : (l.length : Int) - 1 - (k : Int) = (m : Int) := by omega
   have hmn : (m : Int) < (l.length : Int) := by omega
   rw [hmz] at hy ⊢
   rw [hm] at hy
   obtain ⟨f0, f1, f2, f3, f4, f5, f6⟩ := hnx.ev (hc m (by omega))
   have HC : Hid (∀ i, i < l.length → Ev.In W b (off + i * 7) (evAt l i)) := hc
   clear hc hY hm hmz
   gi_wp2
   refine hR.mono ?_
   rintro e W3 (⟨rfl, hJ3, hk3⟩ | ⟨rfl, hJx3⟩)
   ·gi_wp2
    go_roundw
    case rel => exact ⟨k + 1, by omega, by rw [show (l.length : Int) - 1 - ((k + 1 : Nat) : Int) = (m : Int) - 1 from by have := HM.out; omega], hJ3, hnx.trans hk3⟩
    case measure => first | (simp [intOf]; done) | (simp [intOf]; omega)
   ·gi_wp2
    refine bodyPost_ret (results_none rfl _ _ _) rfl ?_
    exact ⟨⟨_, rfl⟩, .inr ⟨_, ⟨k + 1, by omega, rfl⟩, hJx3⟩⟩
  ·obtain rfl : k = l.length := by omega
   have hng : ¬ ((0 : Int) ≤ (l.length : Int) - 1 - (l.length : Int)) := by omega
   gi_wp2
   go_end0
   have hJ9 : J (List.finRange l.length) wr := by rw [List.take_of_length_le (by simp)] at hJs; exact hJs
   first | exact ⟨⟨_, rfl⟩, .inl ⟨_, rfl, hJ9⟩⟩ | exact ⟨⟨_, rfl⟩, .inl hJ9⟩
set_option maxRecDepth 100000 in
set_option maxHeartbeats 1000000 in
theorem back1_nil (F : Fence) (n : Nat) (h49 : F.fn 202) (hro : F.round = none) (lp Bs cap : Nat) (a : Option Addr) (J : List (Fin 0) → World → Prop) (W : World) (hBs : W.cell? ⟨Bs, 0, none⟩ = some (.slice a 0 cap)) (h0 : J [] W) :
  CallsIn F n Tryz.prog 202 #[.func (.yield lp) #[] #[], .pointer (some ⟨Bs, 0, none⟩)] W fun e W' => (∃ v, e = .returned v) ∧ J [] W' := by
 refine callsIn_of_wp Tryz.func202 rfl h49 ?_ hro
 simp only [Tryz.ntmps202, List.size_toArray, List.length_cons, List.length_nil, Nat.reduceAdd, Nat.reduceSub, Array.replicate_succ, Array.replicate_zero, List.push_toArray, List.append_toArray, List.nil_append, List.cons_append]
 gi_wp2
 gi_loopw [3] (fun i wr => i = .int .i64 (-1) ∧ J [] wr) (fun _ _ => 0)
 case atStart => exact ⟨rfl, h0⟩
 case round =>
  obtain ⟨rfl, hJs⟩ := hrel
  gi_wp2
  go_end0
  exact ⟨⟨_, rfl⟩, hJs⟩
set_option maxHeartbeats 1000000 in
theorem backward_any (a : Option Addr) (len cap : Nat) (w : World) :
  Calls Tryz.prog 171 #[.slice a len cap] w fun e w' => e = .returned (.func (.func 202) #[] #[.pointer (some ⟨w.heap.size, 0, none⟩)]) ∧ w' = w.alloc (.cells #[.slice a len cap] 31) := by
 go_enter Tryz.func171, Tryz.ntmps171
 go_wp2
 go_ret
 exact ⟨rfl, rfl⟩
theorem back_stops (F : Fence) (n : Nat) (h49 : F.fn 202) (hro : F.round = none) (hn : 1 ≤ n) (c b : Nat) (a : Option Addr) (cap : Nat) (l : List Ev) (hreach : l.length ≤ 1048576) (w : World) (hcs : c < w.heap.size)
  (hc : w.cell? ⟨c, 0, none⟩ = some (.slice a l.length cap)) (hI : l = [] ∨ ∃ off, a = some ⟨b, off, none⟩ ∧ EvsAt w b off l) :
  SeqStopsK F n Tryz.prog 202 #[.pointer (some ⟨c, 0, none⟩)] (bkArgs l) (Same2 c b) (fun ys => ys = List.finRange l.length) (fun pre => ∃ k, k ≤ l.length ∧ pre = (List.finRange l.length).take k) l.length w := fun lp J Jx W hW _ _ hY h0 => by
 have hc' := (hW.cell (p := ⟨c, 0, none⟩) hcs).trans hc
 rcases hI with rfl | ⟨off, rfl, hb, hev⟩
 ·exact (back1_nil F n h49 hro lp c cap a J W hc' h0).mono fun e W' ⟨he, hj⟩ => ⟨he, .inl ⟨_, rfl, hj⟩⟩
 ·exact back1_in F n h49 hro hn lp c b off cap l hreach J Jx hY W hc' (fun i hi => (hev i hi).below hW hb) h0
end Go.Proofs.YtnccenbkpocjgaaGreat
