/- HSh, HSr -/
import Derived.Test.YtnccenbkpocjgaaGreatExactHearLHSa
import Derived.Test.YtnccenbkpocjgaaGreatExactHearLPBf
import Derived.Test.YtnccenbkpocjgaaGreatExactHearG33
import Derived.Test.YtnccenbkpocjgaaGreatExactHearG11
import Derived.Test.YtnccenbkpocjgaaGreatExactHearG28
import Derived.Test.YtnccenbkpocjgaaGreatExactHearLPOwn
/- The specification's l4hear. -/
namespace Go.Proofs.YtnccenbkpocjgaaGreat
open Go.RowKit
theorem tzHSh {P : Program} {md : Region.Mode} {ops : Array Oper} {Q : Exit → Act → World → Prop} {S : World → Prop} {z fuel : Nat} {listed : Array Bool} {a : Act} {w : World} (i : Nat) (oi : Oper) (v : Value)
 (h : wpAnyZ P md ops Q S z fuel (listed.setIfInBounds i true) (a.put oi.dst v) w) (hi : ops[i]? = some oi := by rfl)
 (hs : Region.noSelect ops = true := by kernel_rfl) (hf : Region.free md ops listed i = true := by kernel_rfl) (hr : (Region.ready md ops listed).contains i = true := by kernel_rfl)
 (hc : chainB md ops i z [i] = true := by kernel_rfl) (hu : [i].all (fun p => !listed.getD p true) = true := by kernel_rfl)
 (hQ : ∀ c a w, Q (.panic c) (a.put oi.dst v) w → Q (.panic c) a w := by exact fun _ _ _ h => h)
 (hy : YieldsIf P ops S oi v a := by exact Or.inl ⟨by rfl, by (intro wX hSw; (try dsimp only at hSw); go_simp; (try exact IntWalk.i64_in _ (by omega)))⟩) (hS : S w := by assumption) : wpAnyZ P md ops Q S z (fuel + 1) listed a w :=
 wpAnyZ_take i [] hi hs hf hr hc hu hQ hy hS h
theorem hidHSh {p : Prop} (h : p) : Hid p := h
theorem row_emptyI (w : World) : (w.alloc (.cells #[] 3)).drew.ownsRow w.heap.size 3 1 (.slice (some ⟨w.heap.size, 0, none⟩) 0 0) 0 [] := ⟨rfl, .inr ⟨w.heap.size, 0, #[], rfl, Nat.le_refl _, heap_alloc_new w _, Nat.le_refl _, Nat.zero_le _, rfl, rfl⟩⟩
theorem SrcC.past9 {w : World} {a : Option Addr} {n cap c k : Nat} {cs : List Value} (h : SrcC w (.slice a n cap) c n cs) (hk : k ≤ n) (hcap : n ≤ cap) : SrcC w (sliced a k n cap c) c (n - k) (cs.drop (k * c)) := by
 obtain ⟨hl, a', c', e, h⟩ := h
 cases e
 refine ⟨by rw [List.length_drop, hl, Nat.sub_mul], ?_⟩
 unfold sliced
 by_cases h0 : k = n
 ·exact ⟨_, _, rfl, .inl (by omega)⟩
 ·rw [if_neg (by omega)]
  rcases h with h | ⟨b, off, rfl, hb, hc⟩
  ·omega
  ·refine ⟨_, _, rfl, .inr ⟨b, off + k * c, by simp [Addr.add_lit], hb, fun j hj => ?_⟩⟩
   have hm : (n - k) * c = n * c - k * c := Nat.sub_mul _ _ _
   have hkc : k * c ≤ n * c := Nat.mul_le_mul_right _ hk
   rw [List.getElem?_drop, Nat.add_assoc]
   exact hc (k * c + j) (by omega)
def HearS (w w' : World) (r : Ending) (p : Pa) (e : Ev) : Prop := ∃ y1 y2, r = .returned (.tuple #[y1, y2]) ∧ IsPart w' y1 (hearQ p e) ∧ IsEvs w' y2 (hearU p e) ∧ Below w.heap.size w w'
set_option maxRecDepth 100000 in
set_option maxHeartbeats 32000000 in
theorem l4hear_any (x : Value) (p : Pa) (e : Ev) (w : World) (hw : p.wt ≤ 1048576) (hg : GoodP p) (h : IsPart w x p) :
  Calls Tryz.prog 57 #[x, .agg #[.int .i64 e.t, .int .i64 e.s, .int .i64 e.q, .int .i64 e.d, .int .i64 e.k, .int .i64 e.v, .int .i64 e.g]] w fun r w' => HearS w w' r p e := by
 have HI : Hid (IsPart w x p) := h
 have HG : Hid (GoodP p) := hg
 have HWT : Hid (p.wt ≤ 1048576) := hw
 obtain ⟨ii, hii, hii0, hii1, hii2⟩ := info_parts infoSli
 obtain ⟨u1, u4, u5, u6, rfl, d1, d4, d5, d6⟩ := h
 obtain ⟨a1, c1, rfl, _⟩ := IsD.len d1
 obtain ⟨a4, c4, rfl, _⟩ := IsD.len d4
 obtain ⟨a5, c5, rfl, _⟩ := IsD.len d5
 obtain ⟨a6, c6, rfl, hn6, hm6, _⟩ := IsD.parts (c := 1) (n := p.a.length) d6
 have HDD : Hid (IsD w (.slice a1 p.st.r.length c1) (intsD p.st.r) ∧ IsD w (.slice a4 p.p.length c4) (pastsD p.p) ∧ IsD w (.slice a5 p.t.length c5) (evsD p.t)) := ⟨d1, d4, d5⟩
 have HD6 := hidHSh d6
 have hal : p.a.length ≤ 2000 := hg.1.2.2
 have hcm2 : c6 ≤ 9223372036854775807 := by unfold maxLen at hm6; omega
 obtain ⟨W0, hW0⟩ : ∃ W0, ((w.alloc (.cells #[.int .i64 p.n, .slice a1 p.st.r.length c1, .int .i64 p.st.q, .int .i64 p.st.d, .slice a4 p.p.length c4, .slice a5 p.t.length c5, .slice a6 p.a.length c6] 33)).alloc (.cells #[.int .i64 e.t, .int .i64 e.s, .int .i64 e.q, .int .i64 e.d, .int .i64 e.k, .int .i64 e.v, .int .i64 e.g] 55)).alloc (.cells #[.int .i64 0, .slice none 0 0, .int .i64 0, .int .i64 0, .slice none 0 0, .slice none 0 0, .slice none 0 0] 33) = W0 := ⟨_, rfl⟩
 have hz0 : W0.heap.size = w.heap.size + 1 + 1 + 1 := by rw [← hW0]; simp
 have hb0 : Below w.heap.size w W0 := hW0 ▸ (((Below.refl _ w).alloc (Nat.le_refl _) _).alloc (by simp) _).alloc (by simp; omega) _
 have HB0 := hidHSh hb0
 have BX : Hid (Bk W0 w.heap.size 33 #[.int .i64 p.n, .slice a1 p.st.r.length c1, .int .i64 p.st.q, .int .i64 p.st.d, .slice a4 p.p.length c4, .slice a5 p.t.length c5, .slice a6 p.a.length c6]) := hW0 ▸ ((Bk.new w _ _).alloc _).alloc _
 have BE : Hid (Bk W0 (w.heap.size + 1) 55 #[.int .i64 e.t, .int .i64 e.s, .int .i64 e.q, .int .i64 e.d, .int .i64 e.k, .int .i64 e.v, .int .i64 e.g]) := hW0 ▸ (Bk.newAt (by simp) _ _).alloc _
 have BZ : Hid (Bk W0 (w.heap.size + 1 + 1) 33 #[.int .i64 0, .slice none 0 0, .int .i64 0, .int .i64 0, .slice none 0 0, .slice none 0 0, .slice none 0 0]) := hW0 ▸ Bk.newAt (by simp) _ _
 have hz0' : W0.heap.size ≤ w.heap.size + 1 + 1 + 1 ∧ w.heap.size + 1 + 1 + 1 ≤ W0.heap.size := by omega
 have x6 := BX.out.cell (i := 6) rfl
 have e6 := BE.out.cell (i := 6) rfl
 clear hb0 d1 d4 d5 d6 hw hz0 hg
 go_enter Tryz.func57, Tryz.ntmps57
 go_wp2_with fail
 clear hW0 x6 e6
 refine (sAnti_any a6 c6 p.a e.g _ (by omega) ((HD6.out.under HB0.out).isI)).mono ?_
 rintro r w1 ⟨hR, hw1⟩
 have hw1' := hw1.symm
 clear hw1
 subst hw1'
 obtain ⟨w1, hw1⟩ : ∃ w1, w1 = W0 := ⟨_, rfl⟩
 subst hw1
 rcases hR with ⟨i, rfl, hi, hig⟩ | ⟨rfl, hno⟩
 case inl =>
  have HN := hidHSh (antiO_some HG.out.2.2.2.2.2 ⟨hi, hig⟩)
  have hi0 : (0 : Int) ≤ (i : Int) := by omega
  have hi63 : (i : Int) + 1 ≤ 9223372036854775807 := by omega
  have hii9 : i ≤ 2000 := by omega
  clear hig
  have x0 := BX.out.cell (i := 0) rfl
  have x1 := BX.out.cell (i := 1) rfl
  have x2 := BX.out.cell (i := 2) rfl
  have x3 := BX.out.cell (i := 3) rfl
  have x4 := BX.out.cell (i := 4) rfl
  have x5 := BX.out.cell (i := 5) rfl
  have x6 := BX.out.cell (i := 6) rfl
  obtain ⟨W2, hW2⟩ : ∃ V, w1.alloc (.cells #[.int .i64 p.n, .slice a1 p.st.r.length c1, .int .i64 p.st.q, .int .i64 p.st.d, .slice a4 p.p.length c4, .slice a5 p.t.length c5, .slice a6 p.a.length c6] 33) = V := ⟨_, rfl⟩
  have hb2 : Below w1.heap.size w1 W2 := hW2 ▸ (Below.refl _ w1).alloc (Nat.le_refl _) _
  have HB2 := hidHSh (HB0.out.trans (hb2.mono HB0.out.size))
  have X2 := hidHSh (BX.out.below hb2)
  have Z2 := hidHSh (BZ.out.below hb2)
  have O2 : Hid (Bk W2 w1.heap.size 33 #[.int .i64 p.n, .slice a1 p.st.r.length c1, .int .i64 p.st.q, .int .i64 p.st.d, .slice a4 p.p.length c4, .slice a5 p.t.length c5, .slice a6 p.a.length c6]) := hW2 ▸ Bk.new _ _ _
  have hs2 : w1.heap.size < W2.heap.size := O2.out.lt
  have s1 := cutHi a6 p.a.length c6 i (by omega)
  have s2 := cutLi a6 p.a.length c6 (i + 1) (by omega)
  rw [show (((i + 1 : Nat)) : Int) = (i : Int) + 1 by omega] at s2
  have hsrc : SrcC W2 (.slice a6 p.a.length c6) 1 p.a.length (intCells p.a) := ((HD6.out.under HB2.out)).srcI
  obtain ⟨av, cv, e1⟩ : ∃ av cv, sliced a6 0 i c6 1 = .slice av i cv := ⟨_, _, by unfold sliced; rfl⟩
  obtain ⟨au, cu, e2⟩ : ∃ au cu, sliced a6 (i + 1) p.a.length c6 1 = .slice au (p.a.length - (i + 1)) cu := ⟨_, _, by unfold sliced; rfl⟩
  have S1 : Hid (SrcC W2 (.slice av i cv) 1 i (intCells (p.a.take i))) := by
   have h9 := hsrc.cut (k := i) (by omega) hn6
   rw [e1, Nat.mul_one] at h9
   show SrcC W2 (.slice av i cv) 1 i (intCells (p.a.take i))
   unfold intCells at h9 ⊢
   rw [List.map_take]
   exact h9
  have S2 : Hid (SrcC W2 (.slice au (p.a.length - (i + 1)) cu) 1 (p.a.length - (i + 1)) (intCells (p.a.drop (i + 1)))) := by
   have h9 := hsrc.past9 (k := i + 1) (by omega) hn6
   rw [e2, Nat.mul_one] at h9
   show SrcC W2 (.slice au (p.a.length - (i + 1)) cu) 1 (p.a.length - (i + 1)) (intCells (p.a.drop (i + 1)))
   unfold intCells at h9 ⊢
   rw [List.map_drop]
   exact h9
  rw [e1] at s1
  rw [e2] at s2
  have HW2 := hidHSh hW2
  clear hsrc e1 e2 hb2 BX BE BZ hW2
  go_upto_region 4 with fail
  try rw [HW2.out]
  clear HW2 x0 x1 x2 x3 x4 x5 x6
  refine wp_region_z 13 (fun W => W.cell? ⟨w.heap.size, 6, none⟩ = some (.slice a6 p.a.length c6) ∧ W.cell? ⟨w1.heap.size, 6, none⟩ = some (.slice a6 p.a.length c6)) (by kernel_rfl) ⟨X2.out.drew.cell rfl, O2.out.drew.cell rfl⟩ (fun hHeld => ?_)
  refine tzHSh 1 { dst := some 19, op := Op.fieldAddr 33 (Operand.tmp 2) 4, type := 0, pos := _, after := _, guard := none } (.pointer (some ⟨w.heap.size, 6, none⟩)) ?_
  try simp only [Act.put, List.setIfInBounds_toArray, List.set_cons_zero, List.set_cons_succ]
  refine tzHSh 2 { dst := some 20, op := Op.load 22 (Operand.tmp 19), type := 22, pos := _, after := _, guard := none } (.slice a6 p.a.length c6) ?_
  try simp only [Act.put, List.setIfInBounds_toArray, List.set_cons_zero, List.set_cons_succ]
  refine tzHSh 3 { dst := some 21, op := Op.move (Operand.tmp 6), type := 3, pos := _, after := _, guard := none } (.int .i64 (i : Int)) ?_
  try simp only [Act.put, List.setIfInBounds_toArray, List.set_cons_zero, List.set_cons_succ]
  refine tzHSh 6 { dst := some 24, op := Op.fieldAddr 33 (Operand.tmp 2) 4, type := 0, pos := _, after := _, guard := none } (.pointer (some ⟨w.heap.size, 6, none⟩)) ?_
  try simp only [Act.put, List.setIfInBounds_toArray, List.set_cons_zero, List.set_cons_succ]
  refine tzHSh 7 { dst := some 25, op := Op.load 22 (Operand.tmp 24), type := 22, pos := _, after := _, guard := none } (.slice a6 p.a.length c6) ?_
  try simp only [Act.put, List.setIfInBounds_toArray, List.set_cons_zero, List.set_cons_succ]
  refine tzHSh 8 { dst := some 26, op := Op.move (Operand.tmp 6), type := 3, pos := _, after := _, guard := none } (.int .i64 (i : Int)) ?_
  try simp only [Act.put, List.setIfInBounds_toArray, List.set_cons_zero, List.set_cons_succ]
  refine tzHSh 9 { dst := some 27, op := Op.binOp BinOp.add 3 (Operand.tmp 26) (Operand.const (Value.int IntKind.i64 1)) 3, type := 3, pos := _, after := _, guard := none } (.int .i64 ((i : Int) + 1)) ?_
  try simp only [Act.put, List.setIfInBounds_toArray, List.set_cons_zero, List.set_cons_succ]
  refine tzHSh 4 { dst := some 22, op := Op.slice 22 (Operand.tmp 20) none (some (Operand.tmp 21)) none, type := 22, pos := _, after := _, guard := none } (.slice av i cv) ?_
  try simp only [Act.put, List.setIfInBounds_toArray, List.set_cons_zero, List.set_cons_succ]
  refine tzHSh 10 { dst := some 28, op := Op.slice 22 (Operand.tmp 25) (some (Operand.tmp 27)) none none, type := 22, pos := _, after := _, guard := none } (.slice au (p.a.length - (i + 1)) cu) ?_
  try simp only [Act.put, List.setIfInBounds_toArray, List.set_cons_zero, List.set_cons_succ]
  refine wpAnyZ_ready (rs := [0]) (by kernel_rfl) (by simp) ?_
  refine AllReadyZ.cons (o := { dst := some 18, op := Op.buildSlice 22 0 #[], type := 22, pos := _, after := _, guard := none }) rfl (fun K hK => ?_) AllReadyZ.nil
  obtain ⟨g1, hg1⟩ : ∃ g, g = W2.heap.size := ⟨_, rfl⟩
  obtain ⟨V1, hV1⟩ : ∃ V, (W2.alloc (.cells #[] 3)).drew = V := ⟨_, rfl⟩
  have HV1 := hidHSh hV1
  have HG1 : Hid (g1 = W2.heap.size) := hg1
  have hbV : Below W2.heap.size W2 V1 := hV1 ▸ ((Below.refl _ W2).alloc (Nat.le_refl _) _).drew
  have HBV := hidHSh hbV
  have X3 := hidHSh (X2.out.below hbV)
  have O3 := hidHSh (O2.out.below hbV)
  have R3 : Hid (V1.ownsRow W2.heap.size 3 1 (.slice (some ⟨g1, 0, none⟩) 0 0) 0 []) := by (rw [← hV1, hg1]; exact row_emptyI W2)
  have S13 := hidHSh (S1.out.below hbV)
  have S23 := hidHSh (S2.out.below hbV)
  clear hV1 hg1 hbV
  go_simp
  rw [HV1.out, ← HG1.out]
  refine hK.out _ _ ⟨X3.out.cell rfl, O3.out.cell rfl⟩ (fun hHeld => ?_)
  clear hK K
  try simp only [Act.put, List.setIfInBounds_toArray, List.set_cons_zero, List.set_cons_succ]
  refine wpAnyZ_ready (rs := [5]) (by kernel_rfl) (by simp) ?_
  refine AllReadyZ.cons (o := { dst := some 23, op := Op.call { callee := Callee.builtin Builtin.append, args := #[Operand.tmp 18, Operand.tmp 22], argTypes := #[22, 22] }, type := 22, pos := _, after := _, guard := none }) rfl (fun K hK => ?_) AllReadyZ.nil
  refine step_append_src (w := V1) rfl (.tmp 18) (.tmp 22) 22 rfl W2.heap.size 3 ii (.int .i64 0) 1 8 Tryz.underlying22 hii hii0 hii1 hii2 rfl (by decide) (.slice (some ⟨g1, 0, none⟩) 0 0) 0 [] rfl R3.out (.slice av i cv) i (intCells (p.a.take i)) rfl S13.out (iOnes _) (by unfold maxLen; omega) (by omega) HBV.out.size ?_
  intro vn w4 hown hgrow hnew
  rw [Nat.zero_add, List.nil_append] at hown
  obtain ⟨an, cn, hvn⟩ := owns_slice hown
  subst hvn
  have hgt := grown_turns hgrow
  have X4 := hidHSh (X3.out.turns hgt (owns_ne R3.out X3.out (by decide)))
  have O4 := hidHSh (O3.out.turns hgt (owns_ne R3.out O3.out (by decide)))
  have R4 := hidHSh hown
  have HB4 := hidHSh (HBV.out.grown hgrow HBV.out.size (fun b e1 => row_ge R3.out e1))
  have S24 := hidHSh (S2.out.below HB4.out)
  clear hown hgrow hnew hgt
  refine hK.out _ _ ⟨X4.out.cell rfl, O4.out.cell rfl⟩ (fun hHeld => ?_)
  clear hK K
  try simp only [Act.put, List.setIfInBounds_toArray, List.set_cons_zero, List.set_cons_succ]
  refine wpAnyZ_ready (rs := [11]) (by kernel_rfl) (by simp) ?_
  refine AllReadyZ.cons (o := { dst := some 29, op := Op.call { callee := Callee.builtin Builtin.append, args := #[Operand.tmp 23, Operand.tmp 28], argTypes := #[22, 22] }, type := 22, pos := _, after := _, guard := none }) rfl (fun K hK => ?_) AllReadyZ.nil
  refine step_append_src (w := w4) rfl (.tmp 23) (.tmp 28) 22 rfl W2.heap.size 3 ii (.int .i64 0) 1 8 Tryz.underlying22 hii hii0 hii1 hii2 rfl (by decide) (.slice an i cn) i (intCells (p.a.take i)) rfl R4.out (.slice au (p.a.length - (i + 1)) cu) (p.a.length - (i + 1)) (intCells (p.a.drop (i + 1))) rfl S24.out (iOnes _) (by unfold maxLen; omega) (by omega) HB4.out.size ?_
  intro vm w5 hown hgrow hnew
  obtain ⟨am, cm, hvm⟩ := owns_slice hown
  subst hvm
  have hgt := grown_turns hgrow
  have X6 := hidHSh (X4.out.turns hgt (owns_ne R4.out X4.out (by decide)))
  have O6 := hidHSh (O4.out.turns hgt (owns_ne R4.out O4.out (by decide)))
  have R5 := hidHSh hown
  have HB5 := hidHSh (HB4.out.grown hgrow HB4.out.size (fun b e1 => row_ge R4.out e1))
  clear hown hgrow hnew hgt
  refine hK.out _ _ ⟨X6.out.cell rfl, O6.out.cell rfl⟩ (fun hHeld => ?_)
  clear hK K
  try simp only [Act.put, List.setIfInBounds_toArray, List.set_cons_zero, List.set_cons_succ]
  refine tzHSh 12 { dst := some 30, op := Op.fieldAddr 33 (Operand.tmp 7) 4, type := 0, pos := _, after := _, guard := none } (.pointer (some ⟨w1.heap.size, 6, none⟩)) ?_
  try simp only [Act.put, List.setIfInBounds_toArray, List.set_cons_zero, List.set_cons_succ]
  refine wpAnyZ_ready (rs := [13]) (by kernel_rfl) (by simp) ?_
  refine AllReadyZ.last (o := { dst := none, op := Op.store 22 (Operand.tmp 30) (Operand.tmp 29), type := 0, pos := _, after := _, guard := none }) rfl (fun K hK => ?_)
  have q5 := O6.out.cell (i := 6) rfl
  have qf := O6.out.free
  obtain ⟨Y5, hY5⟩ : ∃ Y5, w5.setCell ⟨w1.heap.size, 6, none⟩ (.slice am (i + (p.a.length - (i + 1))) cm) = Y5 := ⟨_, rfl⟩
  have hP := O6.out.put 6 (.slice am (i + (p.a.length - (i + 1))) cm)
  have ht := put1_turns w5 w1.heap.size 6 (.slice am (i + (p.a.length - (i + 1))) cm)
  rw [hY5] at hP ht
  have HY5 : Hid _ := hY5
  have O7 := hidHSh hP
  have R7 : Hid (Y5.ownsRow W2.heap.size 3 1 (.slice am (i + (p.a.length - (i + 1))) cm) (i + (p.a.length - (i + 1))) (intCells (p.a.take i) ++ intCells (p.a.drop (i + 1)))) := owns_turns R5.out ht (fun k hk e1 => owns_ne R5.out O6.out (by decide) (e1 ▸ hk))
  have HT7 := hidHSh ht
  clear hP ht hY5
  go_simp
  try rw [HY5.out]
  refine hK.out _ _ ?_
  clear hK K
  try simp only [Act.put, List.setIfInBounds_toArray, List.set_cons_zero, List.set_cons_succ]
  refine wpAnyZ_done (by kernel_rfl) ?_ _
  clear hHeld
  have hz5 := HB5.out.size
  have Z7' : Hid (Bk Y5 (w.heap.size + 1 + 1) 33 #[.int .i64 0, .slice none 0 0, .int .i64 0, .int .i64 0, .slice none 0 0, .slice none 0 0, .slice none 0 0]) := (Z2.out.below HB5.out).turns HT7.out (by omega)
  have HB7 := hidHSh ((HB2.out.trans (HB5.out.mono HB2.out.size)).trans (HT7.out.to_below (fun k hk => by omega) (by omega)))
  have hz7 := HT7.out.size
  have hlen : i + (p.a.length - (i + 1)) = (p.a.take i ++ p.a.drop (i + 1)).length := by rw [List.length_append, List.length_take, List.length_drop]; omega
  have R8 : Hid (Y5.ownsRow W2.heap.size 3 1 (.slice am (i + (p.a.length - (i + 1))) cm) (p.a.take i ++ p.a.drop (i + 1)).length (intCells (p.a.take i ++ p.a.drop (i + 1)))) := by
   have h9 := R7.out
   unfold intCells at h9 ⊢
   rw [List.map_append, ← hlen]
   exact h9
  clear hlen hz5 hz7
  have o0 := O7.out.cell (i := 0) rfl
  have o1 := O7.out.cell (i := 1) rfl
  have o2 := O7.out.cell (i := 2) rfl
  have o3 := O7.out.cell (i := 3) rfl
  have o4 := O7.out.cell (i := 4) rfl
  have o5 := O7.out.cell (i := 5) rfl
  have o6 := O7.out.cell (i := 6) rfl
  have z0 := Z7'.out.cell (i := 0) rfl
  have z1 := Z7'.out.cell (i := 1) rfl
  have z2 := Z7'.out.cell (i := 2) rfl
  have z3 := Z7'.out.cell (i := 3) rfl
  have z4 := Z7'.out.cell (i := 4) rfl
  have z5 := Z7'.out.cell (i := 5) rfl
  have z6 := Z7'.out.cell (i := 6) rfl
  have zf := Z7'.out.free
  obtain ⟨X5, hX5⟩ : ∃ X5, put7s Y5 (w.heap.size + 1 + 1) (.int .i64 p.n) (.slice a1 p.st.r.length c1) (.int .i64 p.st.q) (.int .i64 p.st.d) (.slice a4 p.p.length c4) (.slice a5 p.t.length c5) (.slice am (i + (p.a.length - (i + 1))) cm) = X5 := ⟨_, rfl⟩
  have hP := Z7'.out.put7s (.int .i64 p.n) (.slice a1 p.st.r.length c1) (.int .i64 p.st.q) (.int .i64 p.st.d) (.slice a4 p.p.length c4) (.slice a5 p.t.length c5) (.slice am (i + (p.a.length - (i + 1))) cm)
  have ht := put7s_turns Y5 (w.heap.size + 1 + 1) (.int .i64 p.n) (.slice a1 p.st.r.length c1) (.int .i64 p.st.q) (.int .i64 p.st.d) (.slice a4 p.p.length c4) (.slice a5 p.t.length c5) (.slice am (i + (p.a.length - (i + 1))) cm)
  rw [hX5] at hP ht
  unfold put7s at hX5
  have HX5 : Hid _ := hX5
  have HP5 := hidHSh hP
  have HT5 := hidHSh ht
  clear hX5 hP ht
  go_wp2
  try rw [HX5.out]
  have t0 := HP5.out.cell (i := 0) rfl
  have t1 := HP5.out.cell (i := 1) rfl
  have t2 := HP5.out.cell (i := 2) rfl
  have t3 := HP5.out.cell (i := 3) rfl
  have t4 := HP5.out.cell (i := 4) rfl
  have t5 := HP5.out.cell (i := 5) rfl
  have t6 := HP5.out.cell (i := 6) rfl
  refine bodyPost_ret (v := .tuple #[.agg #[.int .i64 p.n, .slice a1 p.st.r.length c1, .int .i64 p.st.q, .int .i64 p.st.d, .slice a4 p.p.length c4, .slice a5 p.t.length c5, .slice am (i + (p.a.length - (i + 1))) cm], .slice none 0 0]) (by simp [results, Tryz.results57, go_sem, t0, t1, t2, t3, t4, t5, t6]) rfl ?_
  have hq := hearQ_some (p := p) (e := e) HN.out
  have hbx : Below w.heap.size w X5 := HB7.out.trans (HT5.out.to_below (fun b e1 => by omega) HB7.out.size)
  have hr : X5.ownsRow W2.heap.size 3 1 (.slice am (i + (p.a.length - (i + 1))) cm) (p.a.take i ++ p.a.drop (i + 1)).length (intCells (p.a.take i ++ p.a.drop (i + 1))) := owns_turns R8.out HT5.out (fun k hk e1 => by have := row_ge R8.out hk; omega)
  refine ⟨_, _, rfl, ?_, ?_, hbx⟩
  ·rw [hq.1]
   exact ⟨_, _, _, _, rfl, HDD.out.1.under hbx, HDD.out.2.1.under hbx, HDD.out.2.2.under hbx, (RowF.of_owns (by rw [intCells_length]; omega) hr).own.isD⟩
  ·rw [hq.2]
   exact ⟨_, _, rfl, Nat.le_refl _, Nat.zero_le _, .inl rfl⟩
 have HN := hidHSh (antiO_none hno)
 clear hno
 have x0 := BX.out.cell (i := 0) rfl
 have x1 := BX.out.cell (i := 1) rfl
 have x2 := BX.out.cell (i := 2) rfl
 have x3 := BX.out.cell (i := 3) rfl
 have x4 := BX.out.cell (i := 4) rfl
 have x5 := BX.out.cell (i := 5) rfl
 have x6 := BX.out.cell (i := 6) rfl
 have e0 := BE.out.cell (i := 0) rfl
 have e1 := BE.out.cell (i := 1) rfl
 have e2 := BE.out.cell (i := 2) rfl
 have e3 := BE.out.cell (i := 3) rfl
 have e4 := BE.out.cell (i := 4) rfl
 have e5 := BE.out.cell (i := 5) rfl
 have e6 := BE.out.cell (i := 6) rfl
 go_wp2_with fail
 clear x0 e0 x1 e1 x2 e2 x3 e3 x4 e4 x5 e5 x6 e6
 refine (l4backF _ p e w w1 HB0.out HWT.out HG.out HI.out).mono ?_
 rintro r w3 ⟨y1, y2, rfl, hp, hd, hb, hst⟩
 have HB3 := hidHSh (HB0.out.trans (hb.mono HB0.out.size))
 have hs3 : w1.heap.size ≤ w3.heap.size := hb.size
 have Z3 := hidHSh (BZ.out.below hb)
 have E3 := hidHSh (BE.out.below hb)
 have HQN := hearQ_none (p := p) (e := e) HN.out
 obtain ⟨q, hq0⟩ : ∃ q, p.back (cutK p.p e) = q := ⟨_, rfl⟩
 obtain ⟨L, hL0⟩ : ∃ L, undoL p.p (cutK p.p e) = L := ⟨_, rfl⟩
 have hql : q.t.length ≤ 2999 := by (have h9 := hear_len (e := e) HG.out; rw [hq0] at h9; omega)
 rw [hq0] at hp hst HQN
 rw [hL0] at hd hst HQN
 have HQ := hidHSh HQN
 have HP3 : Hid (IsPart w3 y1 q) := hp
 have HST := hidHSh hst
 clear HQN hq0 hL0 hst
 obtain ⟨v1, v4, v5, v6, rfl, j1, j4, j5, j6⟩ := hp
 obtain ⟨b1, k1, rfl, _⟩ := IsD.len j1
 obtain ⟨b4, k4, rfl, _⟩ := IsD.len j4
 obtain ⟨b5, k5, rfl, _⟩ := IsD.len j5
 obtain ⟨b6, k6, rfl, _⟩ := IsD.len j6
 have HJ5 := hidHSh j5.isEvs
 clear j1 j4 j5 j6
 obtain ⟨a2, c2, rfl, _⟩ := id hd
 clear hd hb BX BE BZ
 obtain ⟨W4, hW4⟩ : ∃ V, w3.alloc (.cells #[.int .i64 q.n, .slice b1 q.st.r.length k1, .int .i64 q.st.q, .int .i64 q.st.d, .slice b4 q.p.length k4, .slice b5 q.t.length k5, .slice b6 q.a.length k6] 33) = V := ⟨_, rfl⟩
 have hb4 : Below w3.heap.size w3 W4 := hW4 ▸ (Below.refl _ w3).alloc (Nat.le_refl _) _
 have HB34 := hidHSh hb4
 have Q4 : Hid (Bk W4 w3.heap.size 33 #[.int .i64 q.n, .slice b1 q.st.r.length k1, .int .i64 q.st.q, .int .i64 q.st.d, .slice b4 q.p.length k4, .slice b5 q.t.length k5, .slice b6 q.a.length k6]) := hW4 ▸ Bk.new w3 _ _
 have Z4 := hidHSh (Z3.out.below hb4)
 have E4 := hidHSh (E3.out.below hb4)
 have HB4 := hidHSh (HB3.out.trans (hb4.mono HB3.out.size))
 have hs4 : w3.heap.size < W4.heap.size := Q4.out.lt
 clear hb4 Z3 E3
 have q5 := Q4.out.cell (i := 5) rfl
 have e0 := E4.out.cell (i := 0) rfl
 have e1 := E4.out.cell (i := 1) rfl
 have e2 := E4.out.cell (i := 2) rfl
 have e3 := E4.out.cell (i := 3) rfl
 have e4 := E4.out.cell (i := 4) rfl
 have e5 := E4.out.cell (i := 5) rfl
 have e6 := E4.out.cell (i := 6) rfl
 go_wp2_with fail
 clear hW4 q5 e0 e1 e2 e3 e4 e5 e6
 refine (insert_any _ q.t e _ (by omega) (HJ5.out.below HB34.out)).mono ?_
 rintro r w5 ⟨at9, yi, rfl, hia, ho, hb⟩
 have HAT : Hid (at9 = insP q.t e) := hia.is
 have HB35 := hidHSh (HB34.out.trans (hb.mono HB34.out.size))
 have HB5 := hidHSh (HB4.out.trans (hb.mono HB4.out.size))
 have hs5 : W4.heap.size ≤ w5.heap.size := hb.size
 have Z5 := hidHSh (Z4.out.below hb)
 have Q5 := hidHSh (Q4.out.below hb)
 have HO5 := hidHSh ho
 obtain ⟨ai, ci, rfl⟩ := owns_slice ho
 clear hb Z4 Q4 hia ho
 have p5 := Q5.out.cell (i := 5) rfl
 have pf := Q5.out.free
 obtain ⟨ni, hni⟩ : ∃ ni, (q.t.take at9 ++ e :: q.t.drop at9).length = ni := ⟨_, rfl⟩
 have HNI := hidHSh hni
 rw [hni]
 clear hni
 obtain ⟨Y6, hY6⟩ : ∃ Y, w5.setCell ⟨w3.heap.size, 5, none⟩ (.slice ai ni ci) = Y := ⟨_, rfl⟩
 have hP6 := Q5.out.put 5 (.slice ai ni ci)
 have ht6 := put1_turns w5 w3.heap.size 5 (.slice ai ni ci)
 rw [hY6] at hP6 ht6
 have Q6 := hidHSh hP6
 have HT6 := hidHSh ht6
 have Z6 := hidHSh (Z5.out.turns ht6 (by omega))
 have hz6 := ht6.size
 have HB6 := hidHSh (HB5.out.trans (ht6.to_below (fun k hk => by omega) HB5.out.size))
 have HY6 : Hid _ := hY6
 clear hP6 ht6
 go_upto_region 8 with fail
 try rw [HY6.out]
 clear hY6 p5 pf
 have q0 := Q6.out.cell (i := 0) rfl
 have q1 := Q6.out.cell (i := 1) rfl
 have q2 := Q6.out.cell (i := 2) rfl
 have q3 := Q6.out.cell (i := 3) rfl
 have q4 := Q6.out.cell (i := 4) rfl
 have q5 := Q6.out.cell (i := 5) rfl
 have q6 := Q6.out.cell (i := 6) rfl
 have z0 := Z6.out.cell (i := 0) rfl
 have z1 := Z6.out.cell (i := 1) rfl
 have z2 := Z6.out.cell (i := 2) rfl
 have z3 := Z6.out.cell (i := 3) rfl
 have z4 := Z6.out.cell (i := 4) rfl
 have z5 := Z6.out.cell (i := 5) rfl
 have z6 := Z6.out.cell (i := 6) rfl
 have zf := Z6.out.free
 obtain ⟨X5, hX5⟩ : ∃ X5, put7s Y6 (w.heap.size + 1 + 1) (.int .i64 q.n) (.slice b1 q.st.r.length k1) (.int .i64 q.st.q) (.int .i64 q.st.d) (.slice b4 q.p.length k4) (.slice ai ni ci) (.slice b6 q.a.length k6) = X5 := ⟨_, rfl⟩
 have hP := Z6.out.put7s (.int .i64 q.n) (.slice b1 q.st.r.length k1) (.int .i64 q.st.q) (.int .i64 q.st.d) (.slice b4 q.p.length k4) (.slice ai ni ci) (.slice b6 q.a.length k6)
 have ht := put7s_turns Y6 (w.heap.size + 1 + 1) (.int .i64 q.n) (.slice b1 q.st.r.length k1) (.int .i64 q.st.q) (.int .i64 q.st.d) (.slice b4 q.p.length k4) (.slice ai ni ci) (.slice b6 q.a.length k6)
 rw [hX5] at hP ht
 unfold put7s at hX5
 have HX5 : Hid _ := hX5
 have HP5 := hidHSh hP
 have HT5 := hidHSh ht
 clear hX5 hP ht
 go_wp2
 try rw [HX5.out]
 have t0 := HP5.out.cell (i := 0) rfl
 have t1 := HP5.out.cell (i := 1) rfl
 have t2 := HP5.out.cell (i := 2) rfl
 have t3 := HP5.out.cell (i := 3) rfl
 have t4 := HP5.out.cell (i := 4) rfl
 have t5 := HP5.out.cell (i := 5) rfl
 have t6 := HP5.out.cell (i := 6) rfl
 refine bodyPost_ret (v := .tuple #[.agg #[.int .i64 q.n, .slice b1 q.st.r.length k1, .int .i64 q.st.q, .int .i64 q.st.d, .slice b4 q.p.length k4, .slice ai ni ci, .slice b6 q.a.length k6], .slice a2 L.length c2]) (by simp [results, Tryz.results57, go_sem, t0, t1, t2, t3, t4, t5, t6]) rfl ?_
 have hsx := HT5.out.size
 have hbx : Below w.heap.size w X5 := HB6.out.trans (HT5.out.to_below (fun b e1 => by omega) HB6.out.size)
 have tall : Turns (fun k => k = (w.heap.size + 1 + 1)) w3 X5 := ⟨(HT5.out.os.trans HT6.out.os).trans HB35.out.os, (HT5.out.tape.trans HT6.out.tape).trans HB35.out.tape, (HT5.out.output.trans HT6.out.output).trans HB35.out.output, by have := HB35.out.size; omega, fun k hk hne => (HT5.out.block k (by have := HB35.out.size; omega) hne).trans ((HT6.out.block k (by have := HB35.out.size; omega) (by omega)).trans (HB35.out.block k hk))⟩
 obtain ⟨g1, g2⟩ := HST.out _ X5 tall (fun k hk => by omega)
 have ho9 : OwnR W4.heap.size X5 (.slice ai ni ci) (q.t.take at9 ++ e :: q.t.drop at9) := by
  have h9 := HO5.out
  rw [HNI.out] at h9
  exact owns_turns (owns_turns h9 HT6.out (fun k hk e1 => by have := row_ge h9 hk; omega)) HT5.out (fun k hk e1 => by have := row_ge h9 hk; omega)
 refine ⟨_, _, rfl, ?_, ?_, hbx⟩
 ·rw [HQ.out.1]
  obtain ⟨v1, v4, v5, v6, hv, j1, j4, j5, j6⟩ := g1
  obtain ⟨rfl, rfl, rfl, rfl⟩ : Value.slice b1 q.st.r.length k1 = v1 ∧ Value.slice b4 q.p.length k4 = v4 ∧ Value.slice b5 q.t.length k5 = v5 ∧ Value.slice b6 q.a.length k6 = v6 := by simpa using hv
  rw [HAT.out] at ho9
  exact ⟨_, _, _, _, rfl, j1, j4, ((RowF.of_owns (cellsL_length _) ho9).own.isD), j6⟩
 ·rw [HQ.out.2]
  exact g2
end Go.Proofs.YtnccenbkpocjgaaGreat

/- The specification's Hear. -/
namespace Go.Proofs.YtnccenbkpocjgaaGreat
open Go.RowKit
theorem hidHSr {p : Prop} (h : p) : Hid p := h
set_option maxRecDepth 100000 in
set_option maxHeartbeats 32000000 in
theorem sHear (x : Value) (p : Pa) (e : Ev) (w : World) (hw : p.wt ≤ 1048576) (h : IsPart w x p) :
  Calls Tryz.prog 17 #[x, .agg #[.int .i64 e.t, .int .i64 e.s, .int .i64 e.q, .int .i64 e.d, .int .i64 e.k, .int .i64 e.v, .int .i64 e.g]] w fun r w' => AnsH w w' r (hearA p e) (hearB p e) (hearC p e) := by
 have HI : Hid (IsPart w x p) := h
 have HWT : Hid (p.wt ≤ 1048576) := hw
 obtain ⟨u1, u4, u5, u6, rfl, d1, d4, d5, d6⟩ := h
 obtain ⟨W0, hW0⟩ : ∃ W0, ((w.alloc (.cells #[.int .i64 p.n, u1, .int .i64 p.st.q, .int .i64 p.st.d, u4, u5, u6] 33)).alloc (.cells #[.int .i64 e.t, .int .i64 e.s, .int .i64 e.q, .int .i64 e.d, .int .i64 e.k, .int .i64 e.v, .int .i64 e.g] 55)).alloc (.cells #[.int .i64 0, .slice none 0 0, .int .i64 0, .int .i64 0, .slice none 0 0, .slice none 0 0, .slice none 0 0] 33) = W0 := ⟨_, rfl⟩
 have hz0 : W0.heap.size = w.heap.size + 1 + 1 + 1 := by rw [← hW0]; simp
 have hb0 : Below w.heap.size w W0 := hW0 ▸ (((Below.refl _ w).alloc (Nat.le_refl _) _).alloc (by simp) _).alloc (by simp; omega) _
 have HB0 := hidHSr hb0
 have BX : Hid (Bk W0 w.heap.size 33 #[.int .i64 p.n, u1, .int .i64 p.st.q, .int .i64 p.st.d, u4, u5, u6]) := hW0 ▸ ((Bk.new w _ _).alloc _).alloc _
 have BE : Hid (Bk W0 (w.heap.size + 1) 55 #[.int .i64 e.t, .int .i64 e.s, .int .i64 e.q, .int .i64 e.d, .int .i64 e.k, .int .i64 e.v, .int .i64 e.g]) := hW0 ▸ (Bk.newAt (by simp) _ _).alloc _
 have BZ : Hid (Bk W0 (w.heap.size + 1 + 1) 33 #[.int .i64 0, .slice none 0 0, .int .i64 0, .int .i64 0, .slice none 0 0, .slice none 0 0, .slice none 0 0]) := hW0 ▸ Bk.newAt (by simp) _ _
 have hz0' : W0.heap.size ≤ w.heap.size + 1 + 1 + 1 ∧ w.heap.size + 1 + 1 + 1 ≤ W0.heap.size := by omega
 clear hb0 d1 d4 d5 d6 hw hz0
 have x0 := BX.out.cell (i := 0) rfl
 have x1 := BX.out.cell (i := 1) rfl
 have x2 := BX.out.cell (i := 2) rfl
 have x3 := BX.out.cell (i := 3) rfl
 have x4 := BX.out.cell (i := 4) rfl
 have x5 := BX.out.cell (i := 5) rfl
 have x6 := BX.out.cell (i := 6) rfl
 go_enter Tryz.func17, Tryz.ntmps17
 go_wp2_with fail
 clear hW0 x0 x1 x2 x3 x4 x5 x6
 refine (sPartOk_is _ p _ HWT.out (HI.out.under HB0.out)).mono ?_
 rintro r w1 ⟨rfl, hb⟩
 have HB1 := hidHSr (HB0.out.trans (hb.mono HB0.out.size))
 have hs1 : W0.heap.size ≤ w1.heap.size := hb.size
 have X1 := hidHSr (BX.out.below hb)
 have E1 := hidHSr (BE.out.below hb)
 have Z1 := hidHSr (BZ.out.below hb)
 clear hb BX BE BZ
 cases hok : p.ok
 case false =>
  have HNO : Hid (¬ hearOk p e = true) := fun h => by have h1 := (hearOk_iff.1 h).1; rw [hok] at h1; cases h1
  have ZN := Z1
  have BN := HB1
  clear hok
  have z0 := ZN.out.cell (i := 0) rfl
  have z1 := ZN.out.cell (i := 1) rfl
  have z2 := ZN.out.cell (i := 2) rfl
  have z3 := ZN.out.cell (i := 3) rfl
  have z4 := ZN.out.cell (i := 4) rfl
  have z5 := ZN.out.cell (i := 5) rfl
  have z6 := ZN.out.cell (i := 6) rfl
  have zf := ZN.out.free
  obtain ⟨X5, hX5⟩ : ∃ X5, put7s w1 (w.heap.size + 1 + 1) (.int .i64 0) (.slice none 0 0) (.int .i64 0) (.int .i64 0) (.slice none 0 0) (.slice none 0 0) (.slice none 0 0) = X5 := ⟨_, rfl⟩
  have hP := ZN.out.put7s (.int .i64 0) (.slice none 0 0) (.int .i64 0) (.int .i64 0) (.slice none 0 0) (.slice none 0 0) (.slice none 0 0)
  have ht := put7s_turns w1 (w.heap.size + 1 + 1) (.int .i64 0) (.slice none 0 0) (.int .i64 0) (.int .i64 0) (.slice none 0 0) (.slice none 0 0) (.slice none 0 0)
  rw [hX5] at hP ht
  unfold put7s at hX5
  have HX5 : Hid _ := hX5
  have HP5 := hidHSr hP
  have HT5 := hidHSr ht
  clear hX5 hP ht
  go_wp2
  try rw [HX5.out]
  have t0 := HP5.out.cell (i := 0) rfl
  have t1 := HP5.out.cell (i := 1) rfl
  have t2 := HP5.out.cell (i := 2) rfl
  have t3 := HP5.out.cell (i := 3) rfl
  have t4 := HP5.out.cell (i := 4) rfl
  have t5 := HP5.out.cell (i := 5) rfl
  have t6 := HP5.out.cell (i := 6) rfl
  refine bodyPost_ret (v := .tuple #[.agg #[.int .i64 0, .slice none 0 0, .int .i64 0, .int .i64 0, .slice none 0 0, .slice none 0 0, .slice none 0 0], .slice none 0 0, .bool false]) (by simp [results, Tryz.results17, go_sem, t0, t1, t2, t3, t4, t5, t6]) rfl ?_
  have hA := hear_not (p := p) (e := e) (HNO.out)
  rw [hA.1, hA.2.1, hA.2.2]
  exact ⟨_, _, rfl, BN.out.trans (HT5.out.to_below (fun b e => by omega) BN.out.size), fun _ => False, fun _ => False, none_partF _ _, nilE _, fun _ h => h.elim, fun _ h => h.elim⟩
 have HOK : Hid (p.ok = true) := hok
 clear hok
 have e0 := E1.out.cell (i := 0) rfl
 have e1 := E1.out.cell (i := 1) rfl
 have e2 := E1.out.cell (i := 2) rfl
 have e3 := E1.out.cell (i := 3) rfl
 have e4 := E1.out.cell (i := 4) rfl
 have e5 := E1.out.cell (i := 5) rfl
 have e6 := E1.out.cell (i := 6) rfl
 go_wp2_with fail
 clear e0 e1 e2 e3 e4 e5 e6
 refine (sOk_ev e e.ok rfl _).mono ?_
 rintro r w2 ⟨rfl, hb⟩
 have HB2 := hidHSr (HB1.out.trans (hb.mono HB1.out.size))
 have hs2 : w1.heap.size ≤ w2.heap.size := hb.size
 have X2 := hidHSr (X1.out.below hb)
 have E2 := hidHSr (E1.out.below hb)
 have Z2 := hidHSr (Z1.out.below hb)
 clear hb X1 E1 Z1
 cases hev : e.ok
 case false =>
  have HNO : Hid (¬ hearOk p e = true) := fun h => by have h1 := (hearOk_iff.1 h).2.1; rw [hev] at h1; cases h1
  have ZN := Z2
  have BN := HB2
  clear hev
  have z0 := ZN.out.cell (i := 0) rfl
  have z1 := ZN.out.cell (i := 1) rfl
  have z2 := ZN.out.cell (i := 2) rfl
  have z3 := ZN.out.cell (i := 3) rfl
  have z4 := ZN.out.cell (i := 4) rfl
  have z5 := ZN.out.cell (i := 5) rfl
  have z6 := ZN.out.cell (i := 6) rfl
  have zf := ZN.out.free
  obtain ⟨X5, hX5⟩ : ∃ X5, put7s w2 (w.heap.size + 1 + 1) (.int .i64 0) (.slice none 0 0) (.int .i64 0) (.int .i64 0) (.slice none 0 0) (.slice none 0 0) (.slice none 0 0) = X5 := ⟨_, rfl⟩
  have hP := ZN.out.put7s (.int .i64 0) (.slice none 0 0) (.int .i64 0) (.int .i64 0) (.slice none 0 0) (.slice none 0 0) (.slice none 0 0)
  have ht := put7s_turns w2 (w.heap.size + 1 + 1) (.int .i64 0) (.slice none 0 0) (.int .i64 0) (.int .i64 0) (.slice none 0 0) (.slice none 0 0) (.slice none 0 0)
  rw [hX5] at hP ht
  unfold put7s at hX5
  have HX5 : Hid _ := hX5
  have HP5 := hidHSr hP
  have HT5 := hidHSr ht
  clear hX5 hP ht
  go_wp2
  try rw [HX5.out]
  have t0 := HP5.out.cell (i := 0) rfl
  have t1 := HP5.out.cell (i := 1) rfl
  have t2 := HP5.out.cell (i := 2) rfl
  have t3 := HP5.out.cell (i := 3) rfl
  have t4 := HP5.out.cell (i := 4) rfl
  have t5 := HP5.out.cell (i := 5) rfl
  have t6 := HP5.out.cell (i := 6) rfl
  refine bodyPost_ret (v := .tuple #[.agg #[.int .i64 0, .slice none 0 0, .int .i64 0, .int .i64 0, .slice none 0 0, .slice none 0 0, .slice none 0 0], .slice none 0 0, .bool false]) (by simp [results, Tryz.results17, go_sem, t0, t1, t2, t3, t4, t5, t6]) rfl ?_
  have hA := hear_not (p := p) (e := e) (HNO.out)
  rw [hA.1, hA.2.1, hA.2.2]
  exact ⟨_, _, rfl, BN.out.trans (HT5.out.to_below (fun b e => by omega) BN.out.size), fun _ => False, fun _ => False, none_partF _ _, nilE _, fun _ h => h.elim, fun _ h => h.elim⟩
 have HEV : Hid (e.ok = true) := hev
 have HG : Hid (GoodP p) := Pa.ok_iff.1 HOK.out
 clear hev
 have e3 := E2.out.cell (i := 3) rfl
 have x0 := X2.out.cell (i := 0) rfl
 by_cases hdn : e.d = p.n
 case neg =>
  have HNO : Hid (¬ hearOk p e = true) := fun h => hdn (hearOk_iff.1 h).2.2.1
  have hdb : (e.d != p.n) = true := by simpa using hdn
  have ZN := Z2
  have BN := HB2
  clear hdn
  have z0 := ZN.out.cell (i := 0) rfl
  have z1 := ZN.out.cell (i := 1) rfl
  have z2 := ZN.out.cell (i := 2) rfl
  have z3 := ZN.out.cell (i := 3) rfl
  have z4 := ZN.out.cell (i := 4) rfl
  have z5 := ZN.out.cell (i := 5) rfl
  have z6 := ZN.out.cell (i := 6) rfl
  have zf := ZN.out.free
  obtain ⟨X5, hX5⟩ : ∃ X5, put7s w2 (w.heap.size + 1 + 1) (.int .i64 0) (.slice none 0 0) (.int .i64 0) (.int .i64 0) (.slice none 0 0) (.slice none 0 0) (.slice none 0 0) = X5 := ⟨_, rfl⟩
  have hP := ZN.out.put7s (.int .i64 0) (.slice none 0 0) (.int .i64 0) (.int .i64 0) (.slice none 0 0) (.slice none 0 0) (.slice none 0 0)
  have ht := put7s_turns w2 (w.heap.size + 1 + 1) (.int .i64 0) (.slice none 0 0) (.int .i64 0) (.int .i64 0) (.slice none 0 0) (.slice none 0 0) (.slice none 0 0)
  rw [hX5] at hP ht
  unfold put7s at hX5
  have HX5 : Hid _ := hX5
  have HP5 := hidHSr hP
  have HT5 := hidHSr ht
  clear hX5 hP ht
  go_wp2
  try rw [HX5.out]
  have t0 := HP5.out.cell (i := 0) rfl
  have t1 := HP5.out.cell (i := 1) rfl
  have t2 := HP5.out.cell (i := 2) rfl
  have t3 := HP5.out.cell (i := 3) rfl
  have t4 := HP5.out.cell (i := 4) rfl
  have t5 := HP5.out.cell (i := 5) rfl
  have t6 := HP5.out.cell (i := 6) rfl
  refine bodyPost_ret (v := .tuple #[.agg #[.int .i64 0, .slice none 0 0, .int .i64 0, .int .i64 0, .slice none 0 0, .slice none 0 0, .slice none 0 0], .slice none 0 0, .bool false]) (by simp [results, Tryz.results17, go_sem, t0, t1, t2, t3, t4, t5, t6]) rfl ?_
  have hA := hear_not (p := p) (e := e) (HNO.out)
  rw [hA.1, hA.2.1, hA.2.2]
  exact ⟨_, _, rfl, BN.out.trans (HT5.out.to_below (fun b e => by omega) BN.out.size), fun _ => False, fun _ => False, none_partF _ _, nilE _, fun _ h => h.elim, fun _ h => h.elim⟩
 have HDN : Hid (e.d = p.n) := hdn
 have hdb : (e.d != p.n) = false := by simpa using hdn
 clear hdn x0 e3
 have x0 := X2.out.cell (i := 0) rfl
 have x1 := X2.out.cell (i := 1) rfl
 have x2 := X2.out.cell (i := 2) rfl
 have x3 := X2.out.cell (i := 3) rfl
 have x4 := X2.out.cell (i := 4) rfl
 have x5 := X2.out.cell (i := 5) rfl
 have x6 := X2.out.cell (i := 6) rfl
 have e3 := E2.out.cell (i := 3) rfl
 have e6 := E2.out.cell (i := 6) rfl
 go_wp2_with fail
 clear e3 e6 x0 x1 x2 x3 x4 x5 x6
 refine (sKnows _ p e.g _ (by have := HG.out.1; omega) (by have := HG.out.1; omega) (HI.out.under HB2.out)).mono ?_
 rintro r w3 ⟨rfl, hb⟩
 have HB3 := hidHSr (HB2.out.trans (hb.mono HB2.out.size))
 have hs3 : w2.heap.size ≤ w3.heap.size := hb.size
 have X3 := hidHSr (X2.out.below hb)
 have E3 := hidHSr (E2.out.below hb)
 have Z3 := hidHSr (Z2.out.below hb)
 clear hb X2 E2 Z2
 cases hkn : knowsB p e.g
 case true =>
  have HNO : Hid (¬ hearOk p e = true) := fun h => by have h1 := (hearOk_iff.1 h).2.2.2; rw [hkn] at h1; cases h1
  have ZN := Z3
  have BN := HB3
  clear hkn
  have z0 := ZN.out.cell (i := 0) rfl
  have z1 := ZN.out.cell (i := 1) rfl
  have z2 := ZN.out.cell (i := 2) rfl
  have z3 := ZN.out.cell (i := 3) rfl
  have z4 := ZN.out.cell (i := 4) rfl
  have z5 := ZN.out.cell (i := 5) rfl
  have z6 := ZN.out.cell (i := 6) rfl
  have zf := ZN.out.free
  obtain ⟨X5, hX5⟩ : ∃ X5, put7s w3 (w.heap.size + 1 + 1) (.int .i64 0) (.slice none 0 0) (.int .i64 0) (.int .i64 0) (.slice none 0 0) (.slice none 0 0) (.slice none 0 0) = X5 := ⟨_, rfl⟩
  have hP := ZN.out.put7s (.int .i64 0) (.slice none 0 0) (.int .i64 0) (.int .i64 0) (.slice none 0 0) (.slice none 0 0) (.slice none 0 0)
  have ht := put7s_turns w3 (w.heap.size + 1 + 1) (.int .i64 0) (.slice none 0 0) (.int .i64 0) (.int .i64 0) (.slice none 0 0) (.slice none 0 0) (.slice none 0 0)
  rw [hX5] at hP ht
  unfold put7s at hX5
  have HX5 : Hid _ := hX5
  have HP5 := hidHSr hP
  have HT5 := hidHSr ht
  clear hX5 hP ht
  go_wp2
  try rw [HX5.out]
  have t0 := HP5.out.cell (i := 0) rfl
  have t1 := HP5.out.cell (i := 1) rfl
  have t2 := HP5.out.cell (i := 2) rfl
  have t3 := HP5.out.cell (i := 3) rfl
  have t4 := HP5.out.cell (i := 4) rfl
  have t5 := HP5.out.cell (i := 5) rfl
  have t6 := HP5.out.cell (i := 6) rfl
  refine bodyPost_ret (v := .tuple #[.agg #[.int .i64 0, .slice none 0 0, .int .i64 0, .int .i64 0, .slice none 0 0, .slice none 0 0, .slice none 0 0], .slice none 0 0, .bool false]) (by simp [results, Tryz.results17, go_sem, t0, t1, t2, t3, t4, t5, t6]) rfl ?_
  have hA := hear_not (p := p) (e := e) (HNO.out)
  rw [hA.1, hA.2.1, hA.2.2]
  exact ⟨_, _, rfl, BN.out.trans (HT5.out.to_below (fun b e => by omega) BN.out.size), fun _ => False, fun _ => False, none_partF _ _, nilE _, fun _ h => h.elim, fun _ h => h.elim⟩
 have HYES : Hid (hearOk p e = true) := hearOk_iff.2 ⟨HOK.out, HEV.out, HDN.out, hkn⟩
 clear hkn hdb
 have x0 := X3.out.cell (i := 0) rfl
 have x1 := X3.out.cell (i := 1) rfl
 have x2 := X3.out.cell (i := 2) rfl
 have x3 := X3.out.cell (i := 3) rfl
 have x4 := X3.out.cell (i := 4) rfl
 have x5 := X3.out.cell (i := 5) rfl
 have x6 := X3.out.cell (i := 6) rfl
 have e0 := E3.out.cell (i := 0) rfl
 have e1 := E3.out.cell (i := 1) rfl
 have e2 := E3.out.cell (i := 2) rfl
 have e3 := E3.out.cell (i := 3) rfl
 have e4 := E3.out.cell (i := 4) rfl
 have e5 := E3.out.cell (i := 5) rfl
 have e6 := E3.out.cell (i := 6) rfl
 go_wp2_with fail
 clear e0 x0 e1 x1 e2 x2 e3 x3 e4 x4 e5 x5 e6 x6
 refine (l4hear_any _ p e _ HWT.out HG.out (HI.out.under HB3.out)).mono ?_
 rintro r w4 ⟨y1, y2, rfl, hp, hd, hb⟩
 have HB4 := hidHSr (HB3.out.trans (hb.mono HB3.out.size))
 have hs4 : w3.heap.size ≤ w4.heap.size := hb.size
 have Z4 := hidHSr (Z3.out.below hb)
 have X4 := hidHSr (X3.out.below hb)
 obtain ⟨A, hA0⟩ : ∃ A, hearQ p e = A := ⟨_, rfl⟩
 obtain ⟨L, hL0⟩ : ∃ L, hearU p e = L := ⟨_, rfl⟩
 have hAw : A.wt ≤ 1048576 := hA0 ▸ Nat.le_trans (hearQ_wt HG.out) (by omega)
 have hLw : L.length ≤ 1048576 := hL0 ▸ Nat.le_trans (hearU_len HG.out) (by omega)
 have HAL : Hid (hearQ p e = A ∧ hearU p e = L) := ⟨hA0, hL0⟩
 rw [hA0] at hp
 rw [hL0] at hd
 clear hA0 hL0
 have HP3 : Hid (IsPart w4 y1 A) := hp
 have HD3 : Hid (IsEvs w4 y2 L) := hd
 have HAW : Hid (A.wt ≤ 1048576) := hAw
 obtain ⟨v1, v4, v5, v6, rfl, j1, j4, j5, j6⟩ := hp
 obtain ⟨a1, c1, rfl, _⟩ := IsD.len j1
 obtain ⟨a4, c4, rfl, _⟩ := IsD.len j4
 obtain ⟨a5, c5, rfl, _⟩ := IsD.len j5
 obtain ⟨a6, c6, rfl, _⟩ := IsD.len j6
 clear j1 j4 j5 j6 hAw
 obtain ⟨a2, c2, rfl, _⟩ := id hd
 clear hd hb X3 E3 Z3
 obtain ⟨W5, hW5⟩ : ∃ V, w4.alloc (.cells #[.int .i64 A.n, .slice a1 A.st.r.length c1, .int .i64 A.st.q, .int .i64 A.st.d, .slice a4 A.p.length c4, .slice a5 A.t.length c5, .slice a6 A.a.length c6] 33) = V := ⟨_, rfl⟩
 have hb5 : Below w4.heap.size w4 W5 := hW5 ▸ (Below.refl _ w4).alloc (Nat.le_refl _) _
 have HB45 := hidHSr hb5
 have Q5 : Hid (Bk W5 w4.heap.size 33 #[.int .i64 A.n, .slice a1 A.st.r.length c1, .int .i64 A.st.q, .int .i64 A.st.d, .slice a4 A.p.length c4, .slice a5 A.t.length c5, .slice a6 A.a.length c6]) := hW5 ▸ Bk.new w4 _ _
 have Z5 := hidHSr (Z4.out.below hb5)
 have X5' : Hid (Bk W5 w.heap.size 33 #[.int .i64 p.n, u1, .int .i64 p.st.q, .int .i64 p.st.d, u4, u5, u6]) := X4.out.below hb5
 have HB5 := hidHSr (HB4.out.trans (hb5.mono HB4.out.size))
 have hs5 : w4.heap.size < W5.heap.size := Q5.out.lt
 clear hb5 Z4 X4
 have q0 := Q5.out.cell (i := 0) rfl
 have q1 := Q5.out.cell (i := 1) rfl
 have q2 := Q5.out.cell (i := 2) rfl
 have q3 := Q5.out.cell (i := 3) rfl
 have q4 := Q5.out.cell (i := 4) rfl
 have q5 := Q5.out.cell (i := 5) rfl
 have q6 := Q5.out.cell (i := 6) rfl
 go_wp2_with fail
 clear hW5 q0 q1 q2 q3 q4 q5 q6
 refine (sPartOk_is _ A _ HAW.out (HP3.out.under HB45.out)).mono ?_
 rintro r w6 ⟨rfl, hb⟩
 have HB46 := hidHSr (HB45.out.trans (hb.mono HB45.out.size))
 have HB6 := hidHSr (HB5.out.trans (hb.mono HB5.out.size))
 have hs6 : W5.heap.size ≤ w6.heap.size := hb.size
 have Z6 := hidHSr (Z5.out.below hb)
 have X6' : Hid (Bk w6 w.heap.size 33 #[.int .i64 p.n, u1, .int .i64 p.st.q, .int .i64 p.st.d, u4, u5, u6]) := X5'.out.below hb
 have Q6 := hidHSr (Q5.out.below hb)
 clear hb Z5 X5' Q5
 cases hoa : A.ok
 case false =>
  have HOA : Hid (A.ok = false) := hoa
  clear hoa
  have x0 := X6'.out.cell (i := 0) rfl
  have x1 := X6'.out.cell (i := 1) rfl
  have x2 := X6'.out.cell (i := 2) rfl
  have x3 := X6'.out.cell (i := 3) rfl
  have x4 := X6'.out.cell (i := 4) rfl
  have x5 := X6'.out.cell (i := 5) rfl
  have x6 := X6'.out.cell (i := 6) rfl
  go_wp2_with fail
  clear x0 x1 x2 x3 x4 x5 x6
  refine (l4own_any _ p _ (by have := HWT.out; omega) (HI.out.under HB6.out)).mono ?_
  rintro r w7 ⟨y, rfl, hb, hF⟩
  have HB7 := hidHSr (HB6.out.trans (hb.mono HB6.out.size))
  have hs7 : w6.heap.size ≤ w7.heap.size := hb.size
  have Z7' : Hid (Bk w7 (w.heap.size + 1 + 1) 33 #[.int .i64 0, .slice none 0 0, .int .i64 0, .int .i64 0, .slice none 0 0, .slice none 0 0, .slice none 0 0]) := Z6.out.below hb
  have HF7 := hidHSr hF
  obtain ⟨r1, s1, r4, s4, r5, s5, r6, s6, rfl⟩ := PartF.form hF
  clear hb hF Z6 X6' Q6
  have z0 := Z7'.out.cell (i := 0) rfl
  have z1 := Z7'.out.cell (i := 1) rfl
  have z2 := Z7'.out.cell (i := 2) rfl
  have z3 := Z7'.out.cell (i := 3) rfl
  have z4 := Z7'.out.cell (i := 4) rfl
  have z5 := Z7'.out.cell (i := 5) rfl
  have z6 := Z7'.out.cell (i := 6) rfl
  have zf := Z7'.out.free
  obtain ⟨X5, hX5⟩ : ∃ X5, put7s w7 (w.heap.size + 1 + 1) (.int .i64 p.n) (.slice r1 p.st.r.length s1) (.int .i64 p.st.q) (.int .i64 p.st.d) (.slice r4 p.p.length s4) (.slice r5 p.t.length s5) (.slice r6 p.a.length s6) = X5 := ⟨_, rfl⟩
  have hP := Z7'.out.put7s (.int .i64 p.n) (.slice r1 p.st.r.length s1) (.int .i64 p.st.q) (.int .i64 p.st.d) (.slice r4 p.p.length s4) (.slice r5 p.t.length s5) (.slice r6 p.a.length s6)
  have ht := put7s_turns w7 (w.heap.size + 1 + 1) (.int .i64 p.n) (.slice r1 p.st.r.length s1) (.int .i64 p.st.q) (.int .i64 p.st.d) (.slice r4 p.p.length s4) (.slice r5 p.t.length s5) (.slice r6 p.a.length s6)
  rw [hX5] at hP ht
  unfold put7s at hX5
  have HX5 : Hid _ := hX5
  have HP5 := hidHSr hP
  have HT5 := hidHSr ht
  clear hX5 hP ht
  go_wp2
  try rw [HX5.out]
  have t0 := HP5.out.cell (i := 0) rfl
  have t1 := HP5.out.cell (i := 1) rfl
  have t2 := HP5.out.cell (i := 2) rfl
  have t3 := HP5.out.cell (i := 3) rfl
  have t4 := HP5.out.cell (i := 4) rfl
  have t5 := HP5.out.cell (i := 5) rfl
  have t6 := HP5.out.cell (i := 6) rfl
  refine bodyPost_ret (v := .tuple #[.agg #[.int .i64 p.n, .slice r1 p.st.r.length s1, .int .i64 p.st.q, .int .i64 p.st.d, .slice r4 p.p.length s4, .slice r5 p.t.length s5, .slice r6 p.a.length s6], .slice none 0 0, .bool false]) (by simp [results, Tryz.results17, go_sem, t0, t1, t2, t3, t4, t5, t6]) rfl ?_
  obtain ⟨q1, q2, q3⟩ := hear_yes HYES.out
  have hA : hearA p e = p ∧ hearB p e = [] ∧ hearC p e = false := by (rw [q1, q2, q3, HAL.out.1, HAL.out.2]; unfold outA outB; rw [HOA.out]; exact ⟨rfl, rfl, rfl⟩)
  rw [hA.1, hA.2.1, hA.2.2]
  have hsx := HT5.out.size
  exact ⟨_, _, rfl, HB7.out.trans (HT5.out.to_below (fun b e => by omega) HB7.out.size), _, fun _ => False, HF7.out.turns HT5.out (fun b hb e => by omega), nilE _, fun b hb => ⟨by omega, id⟩, fun b hb => hb.elim⟩
 have HOA : Hid (A.ok = true) := hoa
 clear hoa X6'
 have q0 := Q6.out.cell (i := 0) rfl
 have q1 := Q6.out.cell (i := 1) rfl
 have q2 := Q6.out.cell (i := 2) rfl
 have q3 := Q6.out.cell (i := 3) rfl
 have q4 := Q6.out.cell (i := 4) rfl
 have q5 := Q6.out.cell (i := 5) rfl
 have q6 := Q6.out.cell (i := 6) rfl
 go_wp2_with fail
 clear q0 q1 q2 q3 q4 q5 q6
 refine (l4own_any _ A _ (by have := HAW.out; omega) (HP3.out.under HB46.out)).mono ?_
 rintro r w7 ⟨y, rfl, hb, hF⟩
 have HB7 := hidHSr (HB6.out.trans (hb.mono HB6.out.size))
 have hs7 : w6.heap.size ≤ w7.heap.size := hb.size
 have Z7' : Hid (Bk w7 (w.heap.size + 1 + 1) 33 #[.int .i64 0, .slice none 0 0, .int .i64 0, .int .i64 0, .slice none 0 0, .slice none 0 0, .slice none 0 0]) := Z6.out.below hb
 have HF7 := hidHSr hF
 have HD7 := hidHSr ((HD3.out.below HB46.out).below hb)
 obtain ⟨r1, s1, r4, s4, r5, s5, r6, s6, rfl⟩ := PartF.form hF
 clear hb hF Z6 Q6
 go_wp2_with fail
 refine (l1own_src _ L _ (by omega) (SrcC.ofEvs HD7.out)).mono ?_
 rintro r w8 ⟨y2, rfl, ho, hb⟩
 have HF8 := hidHSr (HF7.out.under hb)
 have HO8 := hidHSr (ownE ho)
 have HB8 := hidHSr (HB7.out.trans (hb.mono HB7.out.size))
 have hs8 : w7.heap.size ≤ w8.heap.size := hb.size
 have Z8 := hidHSr (Z7'.out.below hb)
 obtain ⟨a7, c7, rfl⟩ := owns_slice ho
 clear hb ho Z7'
 have z0 := Z8.out.cell (i := 0) rfl
 have z1 := Z8.out.cell (i := 1) rfl
 have z2 := Z8.out.cell (i := 2) rfl
 have z3 := Z8.out.cell (i := 3) rfl
 have z4 := Z8.out.cell (i := 4) rfl
 have z5 := Z8.out.cell (i := 5) rfl
 have z6 := Z8.out.cell (i := 6) rfl
 have zf := Z8.out.free
 obtain ⟨X5, hX5⟩ : ∃ X5, put7s w8 (w.heap.size + 1 + 1) (.int .i64 A.n) (.slice r1 A.st.r.length s1) (.int .i64 A.st.q) (.int .i64 A.st.d) (.slice r4 A.p.length s4) (.slice r5 A.t.length s5) (.slice r6 A.a.length s6) = X5 := ⟨_, rfl⟩
 have hP := Z8.out.put7s (.int .i64 A.n) (.slice r1 A.st.r.length s1) (.int .i64 A.st.q) (.int .i64 A.st.d) (.slice r4 A.p.length s4) (.slice r5 A.t.length s5) (.slice r6 A.a.length s6)
 have ht := put7s_turns w8 (w.heap.size + 1 + 1) (.int .i64 A.n) (.slice r1 A.st.r.length s1) (.int .i64 A.st.q) (.int .i64 A.st.d) (.slice r4 A.p.length s4) (.slice r5 A.t.length s5) (.slice r6 A.a.length s6)
 rw [hX5] at hP ht
 unfold put7s at hX5
 have HX5 : Hid _ := hX5
 have HP5 := hidHSr hP
 have HT5 := hidHSr ht
 clear hX5 hP ht
 go_wp2
 try rw [HX5.out]
 have t0 := HP5.out.cell (i := 0) rfl
 have t1 := HP5.out.cell (i := 1) rfl
 have t2 := HP5.out.cell (i := 2) rfl
 have t3 := HP5.out.cell (i := 3) rfl
 have t4 := HP5.out.cell (i := 4) rfl
 have t5 := HP5.out.cell (i := 5) rfl
 have t6 := HP5.out.cell (i := 6) rfl
 refine bodyPost_ret (v := .tuple #[.agg #[.int .i64 A.n, .slice r1 A.st.r.length s1, .int .i64 A.st.q, .int .i64 A.st.d, .slice r4 A.p.length s4, .slice r5 A.t.length s5, .slice r6 A.a.length s6], .slice a7 L.length c7, .bool true]) (by simp [results, Tryz.results17, go_sem, t0, t1, t2, t3, t4, t5, t6]) rfl ?_
 obtain ⟨q1, q2, q3⟩ := hear_yes HYES.out
 have hA : hearA p e = A ∧ hearB p e = L ∧ hearC p e = true := by (rw [q1, q2, q3, HAL.out.1, HAL.out.2]; unfold outA outB; rw [HOA.out]; exact ⟨rfl, rfl, rfl⟩)
 rw [hA.1, hA.2.1, hA.2.2]
 have hsx := HT5.out.size
 exact ⟨_, _, rfl, HB8.out.trans (HT5.out.to_below (fun b e => by omega) HB8.out.size), _, _, HF8.out.turns HT5.out (fun b hb e => by omega), HO8.out.turns HT5.out (fun b hb e => by omega), fun b hb => ⟨by omega, fun hg => by omega⟩, fun b hb => by omega⟩
end Go.Proofs.YtnccenbkpocjgaaGreat

