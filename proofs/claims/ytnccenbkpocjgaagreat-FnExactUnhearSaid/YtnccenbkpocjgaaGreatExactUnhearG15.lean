/- URm, USh -/
import Derived.Test.YtnccenbkpocjgaaGreatExactUnhearG10
import Derived.Test.YtnccenbkpocjgaaGreatExactUnhearG06
import Derived.Test.YtnccenbkpocjgaaGreatExactUnhearG14
import Derived.Test.YtnccenbkpocjgaaGreatExactUnhearG11
import Derived.Test.YtnccenbkpocjgaaGreatExactHearLPBf
import Derived.Deep.Cut
import Derived.Test.YtnccenbkpocjgaaGreatExactUnhearLInsD
/- The specification's l1remove. -/
namespace Go.Proofs.YtnccenbkpocjgaaGreat
open Go.RowKit
set_option maxRecDepth 100000 in
set_option maxHeartbeats 16000000 in
theorem l1remove_any (a : Option Addr) (cap i : Nat) (l : List Ev) (w : World) (hl : l.length ≤ 1048577) (hi : i < l.length) (h : IsD w (.slice a l.length cap) (evsD l)) :
  Calls Tryz.prog 124 #[.slice a l.length cap, .int .i64 (i : Int)] w fun r w' => (∃ v, r = .returned v ∧ OwnR w.heap.size w' v (l.take i ++ l.drop (i + 1))) ∧ Below w.heap.size w w' := by
 obtain ⟨ii, hii, hii0, hii1, hii2⟩ := info_parts infoSle
 obtain ⟨a', cap', e, hn6, hm6, _⟩ := IsD.parts (c := 7) (n := l.length) h
 cases e
 have hcm2 : cap ≤ 9223372036854775807 := by unfold maxLen at hm6; omega
 have hi0 : (0 : Int) ≤ (i : Int) := by omega
 have hi63 : (i : Int) + 1 ≤ 9223372036854775807 := by omega
 have s1 := cutHe a l.length cap i (by omega)
 have s2 := cutLe a l.length cap (i + 1) (by omega)
 rw [show (((i + 1 : Nat)) : Int) = (i : Int) + 1 by omega] at s2
 have hsrc : SrcC w (.slice a l.length cap) 7 l.length (cellsL l) := h.srcEv
 obtain ⟨av, cv, e1⟩ : ∃ av cv, sliced a 0 i cap 7 = .slice av i cv := ⟨_, _, by unfold sliced; rfl⟩
 obtain ⟨au, cu, e2⟩ : ∃ au cu, sliced a (i + 1) l.length cap 7 = .slice au (l.length - (i + 1)) cu := ⟨_, _, by unfold sliced; rfl⟩
 have S1 : Hid (SrcC w (.slice av i cv) 7 i (cellsL (l.take i))) := by
  have h9 := hsrc.cut (k := i) (by omega) hn6
  rw [e1, (cellsL_cut l i).1] at h9
  exact h9
 have S2 : Hid (SrcC w (.slice au (l.length - (i + 1)) cu) 7 (l.length - (i + 1)) (cellsL (l.drop (i + 1)))) := by
  have h9 := hsrc.past9 (k := i + 1) (by omega) hn6
  rw [e2, (cellsL_cut l (i + 1)).2] at h9
  exact h9
 rw [e1] at s1
 rw [e2] at s2
 clear hsrc e1 e2 h
 go_enter Tryz.func124, Tryz.ntmps124
 go_upto_region 1 with fail
 refine wp_region_z 10 (fun _ => True) (by kernel_rfl) trivial (fun hHeld => ?_)
 refine wpAnyZ_take (i := 1) (oi := { dst := some 6, op := Op.move (Operand.tmp 0), type := 31, pos := _, after := _, guard := none }) (v := .slice a l.length cap) 1 [] rfl (by kernel_rfl) (by kernel_rfl) (by kernel_rfl) (by kernel_rfl) (by kernel_rfl) (fun _ _ _ h => h) (Or.inl ⟨by rfl, ?_⟩) (by assumption) ?_
 ·intro wX hSw
  try dsimp only at hSw
  go_simp
  try exact IntWalk.i64_in _ (by omega)
 try simp only [Act.put, List.setIfInBounds_toArray, List.set_cons_zero, List.set_cons_succ]
 refine wpAnyZ_take (i := 2) (oi := { dst := some 7, op := Op.move (Operand.tmp 1), type := 3, pos := _, after := _, guard := none }) (v := .int .i64 (i : Int)) 2 [] rfl (by kernel_rfl) (by kernel_rfl) (by kernel_rfl) (by kernel_rfl) (by kernel_rfl) (fun _ _ _ h => h) (Or.inl ⟨by rfl, ?_⟩) (by assumption) ?_
 ·intro wX hSw
  try dsimp only at hSw
  go_simp
  try exact IntWalk.i64_in _ (by omega)
 try simp only [Act.put, List.setIfInBounds_toArray, List.set_cons_zero, List.set_cons_succ]
 refine wpAnyZ_take (i := 5) (oi := { dst := some 10, op := Op.move (Operand.tmp 0), type := 31, pos := _, after := _, guard := none }) (v := .slice a l.length cap) 5 [] rfl (by kernel_rfl) (by kernel_rfl) (by kernel_rfl) (by kernel_rfl) (by kernel_rfl) (fun _ _ _ h => h) (Or.inl ⟨by rfl, ?_⟩) (by assumption) ?_
 ·intro wX hSw
  try dsimp only at hSw
  go_simp
  try exact IntWalk.i64_in _ (by omega)
 try simp only [Act.put, List.setIfInBounds_toArray, List.set_cons_zero, List.set_cons_succ]
 refine wpAnyZ_take (i := 6) (oi := { dst := some 11, op := Op.move (Operand.tmp 1), type := 3, pos := _, after := _, guard := none }) (v := .int .i64 (i : Int)) 6 [] rfl (by kernel_rfl) (by kernel_rfl) (by kernel_rfl) (by kernel_rfl) (by kernel_rfl) (fun _ _ _ h => h) (Or.inl ⟨by rfl, ?_⟩) (by assumption) ?_
 ·intro wX hSw
  try dsimp only at hSw
  go_simp
  try exact IntWalk.i64_in _ (by omega)
 try simp only [Act.put, List.setIfInBounds_toArray, List.set_cons_zero, List.set_cons_succ]
 refine wpAnyZ_take (i := 7) (oi := { dst := some 12, op := Op.binOp BinOp.add 3 (Operand.tmp 11) (Operand.const (Value.int IntKind.i64 1)) 3, type := 3, pos := _, after := _, guard := none }) (v := .int .i64 ((i : Int) + 1)) 7 [] rfl (by kernel_rfl) (by kernel_rfl) (by kernel_rfl) (by kernel_rfl) (by kernel_rfl) (fun _ _ _ h => h) (Or.inl ⟨by rfl, ?_⟩) (by assumption) ?_
 ·intro wX hSw
  try dsimp only at hSw
  go_simp
  try exact IntWalk.i64_in _ (by omega)
 try simp only [Act.put, List.setIfInBounds_toArray, List.set_cons_zero, List.set_cons_succ]
 refine wpAnyZ_take (i := 3) (oi := { dst := some 8, op := Op.slice 31 (Operand.tmp 6) none (some (Operand.tmp 7)) none, type := 31, pos := _, after := _, guard := none }) (v := .slice av i cv) 3 [] rfl (by kernel_rfl) (by kernel_rfl) (by kernel_rfl) (by kernel_rfl) (by kernel_rfl) (fun _ _ _ h => h) (Or.inl ⟨by rfl, ?_⟩) (by assumption) ?_
 ·intro wX hSw
  try dsimp only at hSw
  go_simp
  try exact IntWalk.i64_in _ (by omega)
 try simp only [Act.put, List.setIfInBounds_toArray, List.set_cons_zero, List.set_cons_succ]
 refine wpAnyZ_take (i := 8) (oi := { dst := some 13, op := Op.slice 31 (Operand.tmp 10) (some (Operand.tmp 12)) none none, type := 31, pos := _, after := _, guard := none }) (v := .slice au (l.length - (i + 1)) cu) 8 [] rfl (by kernel_rfl) (by kernel_rfl) (by kernel_rfl) (by kernel_rfl) (by kernel_rfl) (fun _ _ _ h => h) (Or.inl ⟨by rfl, ?_⟩) (by assumption) ?_
 ·intro wX hSw
  try dsimp only at hSw
  go_simp
  try exact IntWalk.i64_in _ (by omega)
 try simp only [Act.put, List.setIfInBounds_toArray, List.set_cons_zero, List.set_cons_succ]
 refine wpAnyZ_ready (rs := [0]) (by kernel_rfl) (by simp) ?_
 refine AllReadyZ.cons (o := { dst := some 5, op := Op.buildSlice 31 0 #[], type := 31, pos := _, after := _, guard := none }) rfl (fun K hK => ?_) AllReadyZ.nil
 obtain ⟨g1, hg1⟩ : ∃ g, g = w.heap.size := ⟨_, rfl⟩
 obtain ⟨V1, hV1⟩ : ∃ V, (w.alloc (.cells #[] 55)).drew = V := ⟨_, rfl⟩
 have HV1 : Hid ((w.alloc (.cells #[] 55)).drew = V1) := hV1
 have HG1 : Hid (g1 = w.heap.size) := hg1
 have hbV : Below w.heap.size w V1 := hV1 ▸ ((Below.refl _ w).alloc (Nat.le_refl _) _).drew
 have HBV : Hid (Below w.heap.size w V1) := hbV
 have R3 : Hid (V1.ownsRow w.heap.size 55 7 (.slice (some ⟨g1, 0, none⟩) 0 0) 0 []) := by (rw [← hV1, hg1]; exact rowE1 w)
 have S13 : Hid (SrcC V1 (.slice av i cv) 7 i (cellsL (l.take i))) := S1.out.below hbV
 have S23 : Hid (SrcC V1 (.slice au (l.length - (i + 1)) cu) 7 (l.length - (i + 1)) (cellsL (l.drop (i + 1)))) := S2.out.below hbV
 clear hV1 hg1 hbV
 go_simp
 rw [HV1.out, ← HG1.out]
 refine hK.out _ _ trivial (fun hHeld => ?_)
 clear hK K
 try simp only [Act.put, List.setIfInBounds_toArray, List.set_cons_zero, List.set_cons_succ]
 refine wpAnyZ_ready (rs := [4]) (by kernel_rfl) (by simp) ?_
 refine AllReadyZ.cons (o := { dst := some 9, op := Op.call { callee := Callee.builtin Builtin.append, args := #[Operand.tmp 5, Operand.tmp 8], argTypes := #[31, 31] }, type := 31, pos := _, after := _, guard := none }) rfl (fun K hK => ?_) AllReadyZ.nil
 refine step_append_src (w := V1) rfl (.tmp 5) (.tmp 8) 31 rfl w.heap.size 55 ii (.agg #[.int .i64 0, .int .i64 0, .int .i64 0, .int .i64 0, .int .i64 0, .int .i64 0, .int .i64 0]) 7 56 Tryz.underlying31 hii hii0 hii1 hii2 rfl (by decide) (.slice (some ⟨g1, 0, none⟩) 0 0) 0 [] rfl R3.out (.slice av i cv) i (cellsL (l.take i)) rfl S13.out (cellsL_one _) (by unfold maxLen; omega) (by omega) HBV.out.size ?_
 intro vn w4 hown hgrow hnew
 rw [Nat.zero_add, List.nil_append] at hown
 obtain ⟨an, cn, hvn⟩ := owns_slice hown
 subst hvn
 have R4 : Hid (w4.ownsRow w.heap.size 55 7 (.slice an i cn) i (cellsL (l.take i))) := hown
 have HB4 : Hid (Below w.heap.size w w4) := HBV.out.grown hgrow HBV.out.size (fun b e1 => row_ge R3.out e1)
 have S24 : Hid (SrcC w4 (.slice au (l.length - (i + 1)) cu) 7 (l.length - (i + 1)) (cellsL (l.drop (i + 1)))) := S2.out.below HB4.out
 clear hown hgrow hnew
 refine hK.out _ _ trivial (fun hHeld => ?_)
 clear hK K
 try simp only [Act.put, List.setIfInBounds_toArray, List.set_cons_zero, List.set_cons_succ]
 refine wpAnyZ_ready (rs := [9]) (by kernel_rfl) (by simp) ?_
 refine AllReadyZ.cons (o := { dst := some 14, op := Op.call { callee := Callee.builtin Builtin.append, args := #[Operand.tmp 9, Operand.tmp 13], argTypes := #[31, 31] }, type := 31, pos := _, after := _, guard := none }) rfl (fun K hK => ?_) AllReadyZ.nil
 refine step_append_src (w := w4) rfl (.tmp 9) (.tmp 13) 31 rfl w.heap.size 55 ii (.agg #[.int .i64 0, .int .i64 0, .int .i64 0, .int .i64 0, .int .i64 0, .int .i64 0, .int .i64 0]) 7 56 Tryz.underlying31 hii hii0 hii1 hii2 rfl (by decide) (.slice an i cn) i (cellsL (l.take i)) rfl R4.out (.slice au (l.length - (i + 1)) cu) (l.length - (i + 1)) (cellsL (l.drop (i + 1))) rfl S24.out (cellsL_one _) (by unfold maxLen; omega) (by omega) HB4.out.size ?_
 intro vm w5 hown hgrow hnew
 have R5 : Hid (w5.ownsRow w.heap.size 55 7 vm (i + (l.length - (i + 1))) (cellsL (l.take i) ++ cellsL (l.drop (i + 1)))) := hown
 have HB5 : Hid (Below w.heap.size w w5) := HB4.out.grown hgrow HB4.out.size (fun b e1 => row_ge R4.out e1)
 clear hown hgrow hnew
 refine hK.out _ _ trivial (fun hHeld => ?_)
 clear hK K
 try simp only [Act.put, List.setIfInBounds_toArray, List.set_cons_zero, List.set_cons_succ]
 refine wpAnyZ_ready (rs := [10]) (by kernel_rfl) (by simp) ?_
 refine AllReadyZ.last (o := { dst := some 4, op := Op.assign (Operand.tmp 14), type := 31, pos := _, after := _, guard := none }) rfl (fun K hK => ?_)
 go_simp
 refine hK.out _ _ ?_
 clear hK K
 try simp only [Act.put, List.setIfInBounds_toArray, List.set_cons_zero, List.set_cons_succ]
 refine wpAnyZ_done (by kernel_rfl) ?_ _
 clear hHeld
 have hlen : i + (l.length - (i + 1)) = (l.take i ++ l.drop (i + 1)).length := by rw [List.length_append, List.length_take, List.length_drop]; omega
 have R8 : Hid (OwnR w.heap.size w5 vm (l.take i ++ l.drop (i + 1))) := by
  show World.ownsRow _ _ _ _ _ _ _
  have h9 := R5.out
  rw [← cellsL_append, hlen] at h9
  exact h9
 clear hlen
 try go_wp2
 go_ret
 exact ⟨⟨_, rfl, R8.out⟩, HB5.out⟩
end Go.Proofs.YtnccenbkpocjgaaGreat
/- The specification's l4unhear. -/
namespace Go.Proofs.YtnccenbkpocjgaaGreat
open Go.RowKit
theorem hidUSh {p : Prop} (h : p) : Hid p := h
def StayM (w W : World) (y1 y2 : Value) (q : Pa) (L : List Ev) : Prop := ∀ (S : Nat → Prop) (W' : World), Turns S W W' → (∀ k, S k → w.heap.size ≤ k ∧ k < w.heap.size + 4) → IsPart W' y1 q ∧ IsEvs W' y2 L
structure MidU (w W : World) (L : List Ev) (q : Pa) (e : Ev) (b1 : Option Addr) (k1 : Nat) (b4 : Option Addr) (k4 : Nat) (b5 : Option Addr) (k5 : Nat) (b6 : Option Addr) (k6 : Nat) (a2 : Option Addr) (c2 : Nat) : Prop where
 bel : Below w.heap.size w W
 qb : Bk W (w.heap.size + 1 + 1 + 1) 33 #[.int .i64 q.n, .slice b1 q.st.r.length k1, .int .i64 q.st.q, .int .i64 q.st.d, .slice b4 q.p.length k4, .slice b5 q.t.length k5, .slice b6 q.a.length k6]
 zb : Bk W (w.heap.size + 1 + 1) 33 #[.int .i64 0, .slice none 0 0, .int .i64 0, .int .i64 0, .slice none 0 0, .slice none 0 0, .slice none 0 0]
 eb : Bk W (w.heap.size + 1) 55 #[.int .i64 e.t, .int .i64 e.s, .int .i64 e.q, .int .i64 e.d, .int .i64 e.k, .int .i64 e.v, .int .i64 e.g]
 st : StayM w W (.agg #[.int .i64 q.n, .slice b1 q.st.r.length k1, .int .i64 q.st.q, .int .i64 q.st.d, .slice b4 q.p.length k4, .slice b5 q.t.length k5, .slice b6 q.a.length k6]) (.slice a2 L.length c2) q L
def UnhS (w w' : World) (r : Ending) (p : Pa) (e : Ev) : Prop := ∃ y1 y2, r = .returned (.tuple #[y1, y2]) ∧ IsPart w' y1 (unhQ p e) ∧ IsEvs w' y2 (unhU p e) ∧ Below w.heap.size w w'
theorem Turns.self {S : Nat → Prop} {w : World} : Turns S w w := ⟨rfl, rfl, rfl, Nat.le_refl _, fun _ _ _ => rfl⟩
set_option maxRecDepth 100000 in
set_option maxHeartbeats 32000000 in
theorem l4unhear_any (x : Value) (p : Pa) (e : Ev) (w : World) (hw : p.wt ≤ 1048576) (hg : GoodP p) (h : IsPart w x p) :
  Calls Tryz.prog 69 #[x, .agg #[.int .i64 e.t, .int .i64 e.s, .int .i64 e.q, .int .i64 e.d, .int .i64 e.k, .int .i64 e.v, .int .i64 e.g]] w fun r w' => UnhS w w' r p e := by
 have HI : Hid (IsPart w x p) := h
 have HG : Hid (GoodP p) := hg
 have HWT : Hid (p.wt ≤ 1048576) := hw
 obtain ⟨u1, u4, u5, u6, rfl, d1, d4, d5, d6⟩ := h
 obtain ⟨a1, c1, rfl, _⟩ := IsD.len d1
 obtain ⟨a4, c4, rfl, _⟩ := IsD.len d4
 obtain ⟨a5, c5, rfl, _⟩ := IsD.len d5
 obtain ⟨a6, c6, rfl, _⟩ := IsD.len d6
 have HD5 := hidUSh d5.isEvs
 have htl : p.t.length ≤ 2000 := hg.1.2.1
 have hpl : p.p.length ≤ 200 := hg.1.1
 obtain ⟨W0, hW0⟩ : ∃ W0, (((w.alloc (.cells #[.int .i64 p.n, .slice a1 p.st.r.length c1, .int .i64 p.st.q, .int .i64 p.st.d, .slice a4 p.p.length c4, .slice a5 p.t.length c5, .slice a6 p.a.length c6] 33)).alloc (.cells #[.int .i64 e.t, .int .i64 e.s, .int .i64 e.q, .int .i64 e.d, .int .i64 e.k, .int .i64 e.v, .int .i64 e.g] 55)).alloc (.cells #[.int .i64 0, .slice none 0 0, .int .i64 0, .int .i64 0, .slice none 0 0, .slice none 0 0, .slice none 0 0] 33)).alloc (.cells #[.int .i64 p.n, .slice a1 p.st.r.length c1, .int .i64 p.st.q, .int .i64 p.st.d, .slice a4 p.p.length c4, .slice a5 p.t.length c5, .slice a6 p.a.length c6] 33) = W0 := ⟨_, rfl⟩
 have hz0 : W0.heap.size = w.heap.size + 1 + 1 + 1 + 1 := by rw [← hW0]; simp
 have hb0 : Below w.heap.size w W0 := hW0 ▸ ((((Below.refl _ w).alloc (Nat.le_refl _) _).alloc (by simp) _).alloc (by simp; omega) _).alloc (by simp; omega) _
 have HB0 := hidUSh hb0
 have BX : Hid (Bk W0 w.heap.size 33 #[.int .i64 p.n, .slice a1 p.st.r.length c1, .int .i64 p.st.q, .int .i64 p.st.d, .slice a4 p.p.length c4, .slice a5 p.t.length c5, .slice a6 p.a.length c6]) := hW0 ▸ (((Bk.new w _ _).alloc _).alloc _).alloc _
 have BE : Hid (Bk W0 (w.heap.size + 1) 55 #[.int .i64 e.t, .int .i64 e.s, .int .i64 e.q, .int .i64 e.d, .int .i64 e.k, .int .i64 e.v, .int .i64 e.g]) := hW0 ▸ ((Bk.newAt (by simp) _ _).alloc _).alloc _
 have BZ : Hid (Bk W0 (w.heap.size + 1 + 1) 33 #[.int .i64 0, .slice none 0 0, .int .i64 0, .int .i64 0, .slice none 0 0, .slice none 0 0, .slice none 0 0]) := hW0 ▸ (Bk.newAt (by simp) _ _).alloc _
 have BQ : Hid (Bk W0 (w.heap.size + 1 + 1 + 1) 33 #[.int .i64 p.n, .slice a1 p.st.r.length c1, .int .i64 p.st.q, .int .i64 p.st.d, .slice a4 p.p.length c4, .slice a5 p.t.length c5, .slice a6 p.a.length c6]) := hW0 ▸ Bk.newAt (by simp) _ _
 have hz0' : W0.heap.size ≤ w.heap.size + 1 + 1 + 1 + 1 ∧ w.heap.size + 1 + 1 + 1 + 1 ≤ W0.heap.size := by omega
 have HW0 : Hid (_ = W0) := hW0
 clear hb0 d1 d4 d5 d6 hw hz0 hg
 obtain ⟨q, hq0⟩ : ∃ q, p.back (bkK p e) = q := ⟨_, rfl⟩
 obtain ⟨L, hL0⟩ : ∃ L, unhU p e = L := ⟨_, rfl⟩
 have HQ := hidUSh hq0
 have HL : Hid (unhU p e = L) := hL0
 clear hq0 hL0
 go_enter Tryz.func69, Tryz.ntmps69
 go_upto_region 3 with fail
 try rw [HW0.out]
 clear HW0 hW0
 go_cut [21] from 9 to 21 (fun c wc => c = .bool (hasB p.p p.p.length e.g) ∧ Below W0.heap.size W0 wc)
 case first =>
  have x0 := BX.out.cell (i := 0) rfl
  have x1 := BX.out.cell (i := 1) rfl
  have x2 := BX.out.cell (i := 2) rfl
  have x3 := BX.out.cell (i := 3) rfl
  have x4 := BX.out.cell (i := 4) rfl
  have x5 := BX.out.cell (i := 5) rfl
  have x6 := BX.out.cell (i := 6) rfl
  have e6 := BE.out.cell (i := 6) rfl
  go_wp2_with fail
  clear x0 x1 x2 x3 x4 x5 x6 e6
  refine (sFind_any a5 c5 p.t e.g _ (by omega) (HD5.out.below HB0.out)).mono ?_
  rintro r w1 ⟨hR, hw1⟩
  have hw1' := hw1.symm
  clear hw1
  subst hw1'
  rcases hR with ⟨i, rfl, hi, hig⟩ | ⟨rfl, hno⟩
  ·have HH := hidUSh (todo_done HG.out hi hig)
   have hi0 : ¬ ((i : Int) < 0) := by omega
   have hi1 : decide ((i : Int) < 0) = false := by simp
   clear hig
   go_wp2
   go_meet
   case rel => exact ⟨by rw [HH.out], Below.refl _ _⟩
  ·have HK := hidUSh (knows_has hno)
   clear hno
   have x0 := BX.out.cell (i := 0) rfl
   have x1 := BX.out.cell (i := 1) rfl
   have x2 := BX.out.cell (i := 2) rfl
   have x3 := BX.out.cell (i := 3) rfl
   have x4 := BX.out.cell (i := 4) rfl
   have x5 := BX.out.cell (i := 5) rfl
   have x6 := BX.out.cell (i := 6) rfl
   have e6 := BE.out.cell (i := 6) rfl
   go_wp2_with fail
   clear x0 x1 x2 x3 x4 x5 x6 e6
   refine (sKnows _ p e.g _ (by omega) (by omega) (HI.out.under HB0.out)).mono ?_
   rintro r w2 ⟨rfl, hb⟩
   cases hk : knowsB p e.g
   ·have HKK := hidUSh hk
    clear hk
    go_wp2
    go_meet
    case rel => exact ⟨by rw [← HK.out, HKK.out], hb⟩
   ·have HKK := hidUSh hk
    clear hk
    go_wp2
    go_meet
    case rel => exact ⟨by rw [← HK.out, HKK.out], hb⟩
 case rest =>
  rename World => w2
  obtain ⟨rfl, hb⟩ := hcut
  have HB2 := hidUSh (HB0.out.trans (hb.mono HB0.out.size))
  have hs2 : W0.heap.size ≤ w2.heap.size := hb.size
  have X2 := hidUSh (BX.out.below hb)
  have E2 := hidUSh (BE.out.below hb)
  have Z2 := hidUSh (BZ.out.below hb)
  have Q2 := hidUSh (BQ.out.below hb)
  clear hb BX BE BZ BQ
  go_upto_if 21 with fail
  go_cut [7] from 21 to 27 (fun s7 wc => ∃ b1 k1 b4 k4 b5 k5 b6 k6 a2 c2, s7 = .slice a2 L.length c2 ∧ MidU w wc L q e b1 k1 b4 k4 b5 k5 b6 k6 a2 c2)
  case first =>
   cases hh : hasB p.p p.p.length e.g
   case false =>
    have h1 : p = q := by (have h9 := HQ.out; rw [bkK_no hh, back_all] at h9; exact h9)
    have h2 : [] = L := by (have h9 := HL.out; unfold unhU at h9; rw [bkK_no hh, undo_all] at h9; exact h9)
    have HM : Hid (MidU w w2 L q e a1 c1 a4 c4 a5 c5 a6 c6 none 0) := by
     subst h1
     subst h2
     refine ⟨HB2.out, Q2.out, Z2.out, E2.out, fun S W' ht hS => ?_⟩
     have hbx : Below w.heap.size w W' := HB2.out.trans (ht.to_below (fun k hk => (hS k hk).1) HB2.out.size)
     exact ⟨HI.out.under hbx, _, _, rfl, Nat.le_refl _, Nat.zero_le _, .inl rfl⟩
    subst h2
    go_wp2
    go_meet
    case rel => exact ⟨_, _, _, _, _, _, _, _, none, 0, rfl, HM.out⟩
   case true =>
    have h1 : p.back (cutK p.p e) = q := by (have h9 := HQ.out; rw [bkK_yes hh] at h9; exact h9)
    have h2 : undoL p.p (cutK p.p e) = L := by (have h9 := HL.out; unfold unhU at h9; rw [bkK_yes hh] at h9; exact h9)
    have HQ1 : Hid (p.back (cutK p.p e) = q ∧ undoL p.p (cutK p.p e) = L) := ⟨h1, h2⟩
    clear h1 h2 hh
    have x0 := X2.out.cell (i := 0) rfl
    have x1 := X2.out.cell (i := 1) rfl
    have x2 := X2.out.cell (i := 2) rfl
    have x3 := X2.out.cell (i := 3) rfl
    have x4 := X2.out.cell (i := 4) rfl
    have x5 := X2.out.cell (i := 5) rfl
    have x6 := X2.out.cell (i := 6) rfl
    have e0 := E2.out.cell (i := 0) rfl
    have e1 := E2.out.cell (i := 1) rfl
    have e2 := E2.out.cell (i := 2) rfl
    have e3 := E2.out.cell (i := 3) rfl
    have e4 := E2.out.cell (i := 4) rfl
    have e5 := E2.out.cell (i := 5) rfl
    have e6 := E2.out.cell (i := 6) rfl
    go_wp2_with fail
    clear x0 e0 x1 e1 x2 e2 x3 e3 x4 e4 x5 e5 x6 e6
    refine (l4backF _ p e w w2 HB2.out HWT.out HG.out HI.out).mono ?_
    rintro r w3 ⟨y1, y2, rfl, hp, hd, hb, hst⟩
    rw [HQ1.out.1] at hp hst
    rw [HQ1.out.2] at hd hst
    have HB3 := hidUSh (HB2.out.trans (hb.mono HB2.out.size))
    have hs3 : w2.heap.size ≤ w3.heap.size := hb.size
    have Z3 := hidUSh (Z2.out.below hb)
    have E3 := hidUSh (E2.out.below hb)
    have Q3 := hidUSh (Q2.out.below hb)
    have HST := hidUSh hst
    clear hst
    obtain ⟨v1, v4, v5, v6, rfl, j1, j4, j5, j6⟩ := hp
    obtain ⟨b1, k1, rfl, _⟩ := IsD.len j1
    obtain ⟨b4, k4, rfl, _⟩ := IsD.len j4
    obtain ⟨b5, k5, rfl, _⟩ := IsD.len j5
    obtain ⟨b6, k6, rfl, _⟩ := IsD.len j6
    clear j1 j4 j5 j6
    obtain ⟨a2, c2, rfl, _⟩ := id hd
    clear hd hb X2 E2 Z2 Q2
    have z0 := Q3.out.cell (i := 0) rfl
    have z1 := Q3.out.cell (i := 1) rfl
    have z2 := Q3.out.cell (i := 2) rfl
    have z3 := Q3.out.cell (i := 3) rfl
    have z4 := Q3.out.cell (i := 4) rfl
    have z5 := Q3.out.cell (i := 5) rfl
    have z6 := Q3.out.cell (i := 6) rfl
    have zf := Q3.out.free
    obtain ⟨X4, hX4⟩ : ∃ X5, put7s w3 (w.heap.size + 1 + 1 + 1) (.int .i64 q.n) (.slice b1 q.st.r.length k1) (.int .i64 q.st.q) (.int .i64 q.st.d) (.slice b4 q.p.length k4) (.slice b5 q.t.length k5) (.slice b6 q.a.length k6) = X5 := ⟨_, rfl⟩
    have hP := Q3.out.put7s (.int .i64 q.n) (.slice b1 q.st.r.length k1) (.int .i64 q.st.q) (.int .i64 q.st.d) (.slice b4 q.p.length k4) (.slice b5 q.t.length k5) (.slice b6 q.a.length k6)
    have ht := put7s_turns w3 (w.heap.size + 1 + 1 + 1) (.int .i64 q.n) (.slice b1 q.st.r.length k1) (.int .i64 q.st.q) (.int .i64 q.st.d) (.slice b4 q.p.length k4) (.slice b5 q.t.length k5) (.slice b6 q.a.length k6)
    rw [hX4] at hP ht
    unfold put7s at hX4
    have HX4 : Hid _ := hX4
    have HP4 := hidUSh hP
    have HT4 := hidUSh ht
    clear hX4 hP ht
    go_wp2
    try rw [HX4.out]
    have hsx := HT4.out.size
    have HM : Hid (MidU w X4 L q e b1 k1 b4 k4 b5 k5 b6 k6 a2 c2) := ⟨HB3.out.trans (HT4.out.to_below (fun k hk => by omega) HB3.out.size), HP4.out, Z3.out.turns HT4.out (by omega), E3.out.turns HT4.out (by omega), fun S W' ht hS => HST.out (fun k => S k ∨ k = (w.heap.size + 1 + 1 + 1)) W' ((HT4.out.mono (fun k hk => .inr hk)).trans (ht.mono (fun k hk => .inl hk))) (fun k hk => hk.elim (fun h9 => by have := hS k h9; omega) (fun h9 => by omega))⟩
    go_meet
    case rel => exact ⟨_, _, _, _, _, _, _, _, _, _, rfl, HM.out⟩
  case rest =>
   rename World => w4
   obtain ⟨b1, k1, b4, k4, b5, k5, b6, k6, a2, c2, rfl, hM⟩ := hcut
   have HB4 := hidUSh hM.bel
   have Q4 := hidUSh hM.qb
   have Z4 := hidUSh hM.zb
   have E4 := hidUSh hM.eb
   have HST := hidUSh hM.st
   have hs4 : w.heap.size + 4 ≤ w4.heap.size := by have := Q4.out.lt; omega
   have hqt : q.t.length ≤ 2200 := by (have h9 := unh_len (e := e) HG.out; rw [HQ.out] at h9; exact h9)
   have HQA : Hid (q.a = p.a) := by (show q.a = p.a; rw [← HQ.out]; rfl)
   have hqa : q.a.length ≤ 2000 := by rw [HQA.out]; exact HG.out.1.2.2
   have HON : Hid (OneTag q.t) := by (have h9 := back_one HG.out (bkK_le p e); rw [HQ.out] at h9; exact h9)
   obtain ⟨g1, _⟩ := HST.out (fun _ => False) w4 Turns.self (fun _ hk => hk.elim)
   obtain ⟨v1, v4, v5, v6, hv, j1, j4, j5, j6⟩ := g1
   obtain ⟨rfl, rfl, rfl, rfl⟩ : Value.slice b1 q.st.r.length k1 = v1 ∧ Value.slice b4 q.p.length k4 = v4 ∧ Value.slice b5 q.t.length k5 = v5 ∧ Value.slice b6 q.a.length k6 = v6 := by simpa using hv
   have HJ5 := hidUSh j5
   have HJ6 := hidUSh j6
   clear hv j1 j4 j5 j6 hM X2 E2 Z2 Q2
   have q5 := Q4.out.cell (i := 5) rfl
   have e6 := E4.out.cell (i := 6) rfl
   go_wp2_with fail
   clear q5 e6
   refine (sFind_any b5 k5 q.t e.g _ (by omega) HJ5.out.isEvs).mono ?_
   rintro r w5 ⟨hR, hw5⟩
   have hw5' := hw5.symm
   clear hw5
   subst hw5'
   rcases hR with ⟨i, rfl, hi, hig⟩ | ⟨rfl, hno⟩
   ·have HEO := hidUSh (endQ_some (evO_some HON.out ⟨hi, hig⟩))
    have hi0 : ¬ ((i : Int) < 0) := by omega
    have hi1 : decide ((i : Int) < 0) = false := by simp
    clear hig
    have q5 := Q4.out.cell (i := 5) rfl
    have e6 := E4.out.cell (i := 6) rfl
    go_wp2_with fail
    clear q5 e6
    refine (l1remove_any b5 k5 i q.t _ (by omega) hi HJ5.out).mono ?_
    rintro r w6 ⟨⟨yi, rfl, ho⟩, hb⟩
    have HB46 := hidUSh hb
    have HB6 := hidUSh (HB4.out.trans (hb.mono HB4.out.size))
    have hs6 : w4.heap.size ≤ w6.heap.size := hb.size
    have Z6 := hidUSh (Z4.out.below hb)
    have Q6 := hidUSh (Q4.out.below hb)
    have HO6 := hidUSh ho
    obtain ⟨ai, ci, rfl⟩ := owns_slice ho
    clear hb ho
    obtain ⟨ni, hni⟩ : ∃ ni, (q.t.take i ++ q.t.drop (i + 1)).length = ni := ⟨_, rfl⟩
    have HNI := hidUSh hni
    rw [hni]
    clear hni
    have pf := Q6.out.free
    have p9 := Q6.out.cell (i := 5) rfl
    obtain ⟨Y6, hY6⟩ : ∃ Y, w6.setCell ⟨w.heap.size + 1 + 1 + 1, 5, none⟩ (.slice ai ni ci) = Y := ⟨_, rfl⟩
    have hP6 := Q6.out.put 5 (.slice ai ni ci)
    have ht6 := put1_turns w6 (w.heap.size + 1 + 1 + 1) 5 (.slice ai ni ci)
    rw [hY6] at hP6 ht6
    have Q7 := hidUSh hP6
    have HT6 := hidUSh ht6
    have Z7' : Hid (Bk Y6 (w.heap.size + 1 + 1) 33 #[.int .i64 0, .slice none 0 0, .int .i64 0, .int .i64 0, .slice none 0 0, .slice none 0 0, .slice none 0 0]) := Z6.out.turns ht6 (by omega)
    have hz6 := ht6.size
    have HB7 := hidUSh (HB6.out.trans (ht6.to_below (fun k hk => by omega) HB6.out.size))
    have HY6 : Hid _ := hY6
    clear hP6 ht6
    go_upto_region 10 with fail
    try rw [HY6.out]
    clear hY6 p9 pf
    have q0 := Q7.out.cell (i := 0) rfl
    have q1 := Q7.out.cell (i := 1) rfl
    have q2 := Q7.out.cell (i := 2) rfl
    have q3 := Q7.out.cell (i := 3) rfl
    have q4 := Q7.out.cell (i := 4) rfl
    have q5 := Q7.out.cell (i := 5) rfl
    have q6 := Q7.out.cell (i := 6) rfl
    have z0 := Z7'.out.cell (i := 0) rfl
    have z1 := Z7'.out.cell (i := 1) rfl
    have z2 := Z7'.out.cell (i := 2) rfl
    have z3 := Z7'.out.cell (i := 3) rfl
    have z4 := Z7'.out.cell (i := 4) rfl
    have z5 := Z7'.out.cell (i := 5) rfl
    have z6 := Z7'.out.cell (i := 6) rfl
    have zf := Z7'.out.free
    obtain ⟨X5, hX5⟩ : ∃ X5, put7s Y6 (w.heap.size + 1 + 1) (.int .i64 q.n) (.slice b1 q.st.r.length k1) (.int .i64 q.st.q) (.int .i64 q.st.d) (.slice b4 q.p.length k4) (.slice ai ni ci) (.slice b6 q.a.length k6) = X5 := ⟨_, rfl⟩
    have hP := Z7'.out.put7s (.int .i64 q.n) (.slice b1 q.st.r.length k1) (.int .i64 q.st.q) (.int .i64 q.st.d) (.slice b4 q.p.length k4) (.slice ai ni ci) (.slice b6 q.a.length k6)
    have ht := put7s_turns Y6 (w.heap.size + 1 + 1) (.int .i64 q.n) (.slice b1 q.st.r.length k1) (.int .i64 q.st.q) (.int .i64 q.st.d) (.slice b4 q.p.length k4) (.slice ai ni ci) (.slice b6 q.a.length k6)
    rw [hX5] at hP ht
    unfold put7s at hX5
    have HX5 : Hid _ := hX5
    have HP5 := hidUSh hP
    have HT5 := hidUSh ht
    clear hX5 hP ht
    go_wp2
    try rw [HX5.out]
    have t0 := HP5.out.cell (i := 0) rfl
    have t1 := HP5.out.cell (i := 1) rfl
    have t2 := HP5.out.cell (i := 2) rfl
    have t3 := HP5.out.cell (i := 3) rfl
    have t4 := HP5.out.cell (i := 4) rfl
    have t5 := HP5.out.cell (i := 5) rfl
    have t6 := HP5.out.cell (i := 6) rfl
    refine bodyPost_ret (v := .tuple #[.agg #[.int .i64 q.n, .slice b1 q.st.r.length k1, .int .i64 q.st.q, .int .i64 q.st.d, .slice b4 q.p.length k4, .slice ai ni ci, .slice b6 q.a.length k6], .slice a2 L.length c2]) (by simp [results, Tryz.results69, go_sem, t0, t1, t2, t3, t4, t5, t6]) rfl ?_
    have hsx := HT5.out.size
    have hbx : Below w.heap.size w X5 := HB7.out.trans (HT5.out.to_below (fun b e1 => by omega) HB7.out.size)
    have tall : Turns (fun k => k = (w.heap.size + 1 + 1) ∨ k = (w.heap.size + 1 + 1 + 1)) w4 X5 := ⟨(HT5.out.os.trans HT6.out.os).trans HB46.out.os, (HT5.out.tape.trans HT6.out.tape).trans HB46.out.tape, (HT5.out.output.trans HT6.out.output).trans HB46.out.output, by omega, fun k hk hne => (HT5.out.block k (by omega) (fun h9 => hne (.inl h9))).trans ((HT6.out.block k (by omega) (fun h9 => hne (.inr h9))).trans (HB46.out.block k hk))⟩
    obtain ⟨g1, g2⟩ := HST.out _ X5 tall (fun k hk => by omega)
    have ho9 : OwnR w4.heap.size X5 (.slice ai ni ci) (q.t.take i ++ q.t.drop (i + 1)) := by
     have h9 := HO6.out
     rw [HNI.out] at h9
     exact owns_turns (owns_turns h9 HT6.out (fun k hk e1 => by have := row_ge h9 hk; omega)) HT5.out (fun k hk e1 => by have := row_ge h9 hk; omega)
    refine ⟨_, _, rfl, ?_, ?_, hbx⟩
    ·unfold unhQ
     rw [HQ.out, HEO.out]
     obtain ⟨v1, v4, v5, v6, hv, j1, j4, j5, j6⟩ := g1
     obtain ⟨rfl, rfl, rfl, rfl⟩ : Value.slice b1 q.st.r.length k1 = v1 ∧ Value.slice b4 q.p.length k4 = v4 ∧ Value.slice b5 q.t.length k5 = v5 ∧ Value.slice b6 q.a.length k6 = v6 := by simpa using hv
     exact ⟨_, _, _, _, rfl, j1, j4, ((RowF.of_owns (cellsL_length _) ho9).own.isD), j6⟩
    ·rw [HL.out]
     exact g2
   ·have HEO := hidUSh (endQ_none (evO_none hno))
    clear hno
    have q6 := Q4.out.cell (i := 6) rfl
    have e6 := E4.out.cell (i := 6) rfl
    go_wp2_with fail
    clear q6 e6
    refine (l4mark_any b6 k6 q.a e.g _ (by omega) (by rw [HQA.out]; exact HG.out.2.2.2.2.2) HJ6.out.isI).mono ?_
    rintro r w6 ⟨⟨yi, rfl, ho⟩, hb⟩
    have HB46 := hidUSh hb
    have HB6 := hidUSh (HB4.out.trans (hb.mono HB4.out.size))
    have hs6 : w4.heap.size ≤ w6.heap.size := hb.size
    have Z6 := hidUSh (Z4.out.below hb)
    have Q6 := hidUSh (Q4.out.below hb)
    have HO6 := hidUSh ho
    obtain ⟨ai, ci, rfl⟩ := owns_slice ho
    clear hb ho
    obtain ⟨ni, hni⟩ : ∃ ni, (markL q.a e.g).length = ni := ⟨_, rfl⟩
    have HNI := hidUSh hni
    rw [hni]
    clear hni
    have pf := Q6.out.free
    have p9 := Q6.out.cell (i := 6) rfl
    obtain ⟨Y6, hY6⟩ : ∃ Y, w6.setCell ⟨w.heap.size + 1 + 1 + 1, 6, none⟩ (.slice ai ni ci) = Y := ⟨_, rfl⟩
    have hP6 := Q6.out.put 6 (.slice ai ni ci)
    have ht6 := put1_turns w6 (w.heap.size + 1 + 1 + 1) 6 (.slice ai ni ci)
    rw [hY6] at hP6 ht6
    have Q7 := hidUSh hP6
    have HT6 := hidUSh ht6
    have Z7' : Hid (Bk Y6 (w.heap.size + 1 + 1) 33 #[.int .i64 0, .slice none 0 0, .int .i64 0, .int .i64 0, .slice none 0 0, .slice none 0 0, .slice none 0 0]) := Z6.out.turns ht6 (by omega)
    have hz6 := ht6.size
    have HB7 := hidUSh (HB6.out.trans (ht6.to_below (fun k hk => by omega) HB6.out.size))
    have HY6 : Hid _ := hY6
    clear hP6 ht6
    go_upto_region 8 with fail
    try rw [HY6.out]
    clear hY6 p9 pf
    have q0 := Q7.out.cell (i := 0) rfl
    have q1 := Q7.out.cell (i := 1) rfl
    have q2 := Q7.out.cell (i := 2) rfl
    have q3 := Q7.out.cell (i := 3) rfl
    have q4 := Q7.out.cell (i := 4) rfl
    have q5 := Q7.out.cell (i := 5) rfl
    have q6 := Q7.out.cell (i := 6) rfl
    have z0 := Z7'.out.cell (i := 0) rfl
    have z1 := Z7'.out.cell (i := 1) rfl
    have z2 := Z7'.out.cell (i := 2) rfl
    have z3 := Z7'.out.cell (i := 3) rfl
    have z4 := Z7'.out.cell (i := 4) rfl
    have z5 := Z7'.out.cell (i := 5) rfl
    have z6 := Z7'.out.cell (i := 6) rfl
    have zf := Z7'.out.free
    obtain ⟨X5, hX5⟩ : ∃ X5, put7s Y6 (w.heap.size + 1 + 1) (.int .i64 q.n) (.slice b1 q.st.r.length k1) (.int .i64 q.st.q) (.int .i64 q.st.d) (.slice b4 q.p.length k4) (.slice b5 q.t.length k5) (.slice ai ni ci) = X5 := ⟨_, rfl⟩
    have hP := Z7'.out.put7s (.int .i64 q.n) (.slice b1 q.st.r.length k1) (.int .i64 q.st.q) (.int .i64 q.st.d) (.slice b4 q.p.length k4) (.slice b5 q.t.length k5) (.slice ai ni ci)
    have ht := put7s_turns Y6 (w.heap.size + 1 + 1) (.int .i64 q.n) (.slice b1 q.st.r.length k1) (.int .i64 q.st.q) (.int .i64 q.st.d) (.slice b4 q.p.length k4) (.slice b5 q.t.length k5) (.slice ai ni ci)
    rw [hX5] at hP ht
    unfold put7s at hX5
    have HX5 : Hid _ := hX5
    have HP5 := hidUSh hP
    have HT5 := hidUSh ht
    clear hX5 hP ht
    go_wp2
    try rw [HX5.out]
    have t0 := HP5.out.cell (i := 0) rfl
    have t1 := HP5.out.cell (i := 1) rfl
    have t2 := HP5.out.cell (i := 2) rfl
    have t3 := HP5.out.cell (i := 3) rfl
    have t4 := HP5.out.cell (i := 4) rfl
    have t5 := HP5.out.cell (i := 5) rfl
    have t6 := HP5.out.cell (i := 6) rfl
    refine bodyPost_ret (v := .tuple #[.agg #[.int .i64 q.n, .slice b1 q.st.r.length k1, .int .i64 q.st.q, .int .i64 q.st.d, .slice b4 q.p.length k4, .slice b5 q.t.length k5, .slice ai ni ci], .slice a2 L.length c2]) (by simp [results, Tryz.results69, go_sem, t0, t1, t2, t3, t4, t5, t6]) rfl ?_
    have hsx := HT5.out.size
    have hbx : Below w.heap.size w X5 := HB7.out.trans (HT5.out.to_below (fun b e1 => by omega) HB7.out.size)
    have tall : Turns (fun k => k = (w.heap.size + 1 + 1) ∨ k = (w.heap.size + 1 + 1 + 1)) w4 X5 := ⟨(HT5.out.os.trans HT6.out.os).trans HB46.out.os, (HT5.out.tape.trans HT6.out.tape).trans HB46.out.tape, (HT5.out.output.trans HT6.out.output).trans HB46.out.output, by omega, fun k hk hne => (HT5.out.block k (by omega) (fun h9 => hne (.inl h9))).trans ((HT6.out.block k (by omega) (fun h9 => hne (.inr h9))).trans (HB46.out.block k hk))⟩
    obtain ⟨g1, g2⟩ := HST.out _ X5 tall (fun k hk => by omega)
    have ho9 : RowQ w4.heap.size X5 (.slice ai ni ci) (markL q.a e.g) := by
     have h9 := HO6.out
     rw [HNI.out] at h9
     exact owns_turns (owns_turns h9 HT6.out (fun k hk e1 => by have := row_ge h9 hk; omega)) HT5.out (fun k hk e1 => by have := row_ge h9 hk; omega)
    refine ⟨_, _, rfl, ?_, ?_, hbx⟩
    ·unfold unhQ
     rw [HQ.out, HEO.out]
     obtain ⟨v1, v4, v5, v6, hv, j1, j4, j5, j6⟩ := g1
     obtain ⟨rfl, rfl, rfl, rfl⟩ : Value.slice b1 q.st.r.length k1 = v1 ∧ Value.slice b4 q.p.length k4 = v4 ∧ Value.slice b5 q.t.length k5 = v5 ∧ Value.slice b6 q.a.length k6 = v6 := by simpa using hv
     exact ⟨_, _, _, _, rfl, j1, j4, j5, (RowF.of_owns (by rw [intCells_length]; omega) ho9).own.isD⟩
    ·rw [HL.out]
     exact g2
end Go.Proofs.YtnccenbkpocjgaaGreat
