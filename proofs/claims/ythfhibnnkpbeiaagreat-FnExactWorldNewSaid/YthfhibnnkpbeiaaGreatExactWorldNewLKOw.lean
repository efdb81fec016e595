/- The specification's copy of a new kernel. -/
import Derived.Test.YthfhibnnkpbeiaaGreatExactWorldNewG01
import Derived.Test.YthfhibnnkpbeiaaGreatExactWorldNewG26
import Derived.Test.YthfhibnnkpbeiaaGreatExactWorldNewG07
import Derived.Test.YthfhibnnkpbeiaaGreatExactWorldNewLKOm
import Derived.Test.YthfhibnnkpbeiaaGreatExactWorldNewG32
import Derived.Test.YthfhibnnkpbeiaaGreatExactWorldNewLN4s
import Derived.ArgAppend
import Derived.Deep.CutBlock
namespace Go.Proofs.YthfhibnnkpbeiaaGreat
open Go.RowKit
theorem tzKOw {P : Program} {md : Region.Mode} {ops : Array Oper} {Q : Exit → Act → World → Prop} {S : World → Prop} {z fuel : Nat} {listed : Array Bool} {a : Act} {w : World} (i : Nat) (oi : Oper) (v : Value)
 (h : wpAnyZ P md ops Q S z fuel (listed.setIfInBounds i true) (a.put oi.dst v) w) (hi : ops[i]? = some oi := by rfl)
 (hs : Region.noSelect ops = true := by kernel_rfl) (hf : Region.free md ops listed i = true := by kernel_rfl) (hr : (Region.ready md ops listed).contains i = true := by kernel_rfl)
 (hc : chainB md ops i z [i] = true := by kernel_rfl) (hu : [i].all (fun p => !listed.getD p true) = true := by kernel_rfl)
 (hQ : ∀ c a w, Q (.panic c) (a.put oi.dst v) w → Q (.panic c) a w := by exact fun _ _ _ h => h)
 (hy : YieldsIf P ops S oi v a := by exact Or.inl ⟨by rfl, by (intro wX hSw; (try dsimp only at hSw); go_simp; (try exact IntWalk.i64_in _ (by omega)))⟩) (hS : S w := by assumption) : wpAnyZ P md ops Q S z (fuel + 1) listed a w :=
 wpAnyZ_take i [] hi hs hf hr hc hu hQ hy hS h
theorem hidKOw {p : Prop} (h : p) : Hid p := h
def bits5 (n : Nat) : Array Bool := (Array.range 27).map fun i => n.testBit i
theorem with_goal {P : Program} {ops : Array Oper} {Q : Exit → Act → World → Prop} {md : Region.Mode} {S : World → Prop} {z fuel : Nat} {listed : Array Bool} {a : Act} {w : World} (h : ∀ G : Nat → Array Bool → Act → World → Prop, G = wpAnyZ P md ops Q S z → G fuel listed a w) : wpAnyZ P md ops Q S z fuel listed a w := h _ rfl
theorem wpAnyZ_listed {P : Program} {ops : Array Oper} {Q : Exit → Act → World → Prop} {md : Region.Mode} {S : World → Prop} {z fuel : Nat} {l l' : Array Bool} {a : Act} {w : World} (h : l = l') (H : wpAnyZ P md ops Q S z fuel l' a w) : wpAnyZ P md ops Q S z fuel l a w := h ▸ H
theorem s5_of {W : World} {b : Nat} {T : TypeId} {z0 z1 z2 z3 z4 z5 z6 z7 z8 z9 z10 z11 z12 z13 : Value} (h : Bk W b T #[z0, z1, z2, z3, z4, z5, z6, z7, z8, z9, z10, z11, z12, z13]) : W.cell? ⟨b, 0, none⟩ = some z0 ∧ W.cell? ⟨b, 1, none⟩ = some z1 ∧ W.cell? ⟨b, 2, none⟩ = some z2 ∧ W.cell? ⟨b, 3, none⟩ = some z3 ∧ W.cell? ⟨b, 4, none⟩ = some z4 ∧ W.cell? ⟨b, 5, none⟩ = some z5 ∧ W.cell? ⟨b, 6, none⟩ = some z6 ∧ W.cell? ⟨b, 8, none⟩ = some z8 ∧ W.cell? ⟨b, 9, none⟩ = some z9 ∧ W.cell? ⟨b, 10, none⟩ = some z10 ∧ W.cell? ⟨b, 11, none⟩ = some z11 ∧ W.cell? ⟨b, 12, none⟩ = some z12 ∧ W.cell? ⟨b, 13, none⟩ = some z13 := ⟨h.cell (i := 0) rfl, h.cell (i := 1) rfl, h.cell (i := 2) rfl, h.cell (i := 3) rfl, h.cell (i := 4) rfl, h.cell (i := 5) rfl, h.cell (i := 6) rfl, h.cell (i := 8) rfl, h.cell (i := 9) rfl, h.cell (i := 10) rfl, h.cell (i := 11) rfl, h.cell (i := 12) rfl, h.cell (i := 13) rfl⟩
theorem lay_any (W : World) (xs : Array Value) (T : TypeId) : ∃ X V, Hid (X = W.heap.size) ∧ Hid (W.alloc (.cells xs T) = V) ∧ Below W.heap.size W V ∧ Bk V X T xs := ⟨_, _, rfl, rfl, (Below.refl _ W).alloc (Nat.le_refl _) _, Bk.new W _ _⟩
theorem infoM9 : (Tryz.prog.info? 122).map (fun i => i.size) = some 8 := by kernel_rfl
theorem infoXm : (Tryz.prog.info? 126).map (fun i => i.size) = some 3 := by kernel_rfl
theorem fresh_pos {P : Program} {ops : Array Oper} {o : Oper} {a : Act} {w : World} {K : Act → World → Prop} {Q : Exit → Act → World → Prop} {E : Prop}
  (hg : o.guard = none) (s x : Operand) (t : TypeId) (hop : o.op = Op.call { callee := Callee.builtin Builtin.append, args := #[s, x], argTypes := #[t, t] })
  (e : TypeId) (i : TypeInfo) (z : Value) (size bytes : Nat) (h1 : P.underlying t = some (.slice e)) (h2 : P.info? e = some i) (h3 : i.zero = some z) (h4 : i.size = size) (h5 : i.bytes = bytes) (h6 : z.cells.size = size) (h7 : 0 < size)
  (g : Nat) (hs : a.eval s = .slice (some ⟨g, 0, none⟩) 0 0) (u : Value) (m : Nat) (news : List Value) (hx : a.eval x = u) (hc : SrcC w u size m news) (hm : 0 < m) (b1 : m ≤ maxLen) (b2 : m * bytes ≤ 140737488355328)
  (hK : ∀ v' w', w'.ownsRow w.heap.size e size v' m news → Below w.heap.size w w' → K (a.put o.dst v') w') :
  if Region.wanted o (yielded ops a.tmps) = true then Oper.wp P o a w K Q else E := by
 have hw : Region.wanted o (yielded ops a.tmps) = true := by simp [Region.wanted, hg]
 rw [if_pos hw]
 obtain ⟨hn, au, c, rfl, hc⟩ := hc
 obtain ⟨b, off, rfl, hlt, hcc⟩ := hc.resolve_left (by omega)
 obtain ⟨v', w', hrun, r1, r2⟩ := run_append_arg_grows (P := P) w t o.type e i z size bytes h1 h2 h3 h4 h5 h6 h7 ⟨g, 0, none⟩ 0 0 [] (by simp) (fun j u hu => by simp at hu) ⟨b, off, none⟩ m c news hn (fun j u hu => by
  have hj : j < m * size := by rw [← hn]; exact (List.getElem?_eq_some_iff.1 hu).1
  rw [Addr.add_lit, hcc j hj]
  exact hu) (by omega) (by omega) (by rw [Nat.zero_add]; exact b2)
 rw [Nat.zero_add, List.nil_append] at r1
 unfold Oper.wp
 simp [execOp, hop, resolve, invoke, builtin, hs, hx, hrun, Result.andThen]
 exact hK v' w' r1 ((Below.refl _ w).grown r2 (Nat.le_refl _) (fun k e => by cases e))
theorem fresh_zero {P : Program} {ops : Array Oper} {o : Oper} {a : Act} {w : World} {K : Act → World → Prop} {Q : Exit → Act → World → Prop} {E : Prop}
  (hg : o.guard = none) (s x : Operand) (t : TypeId) (hop : o.op = Op.call { callee := Callee.builtin Builtin.append, args := #[s, x], argTypes := #[t, t] })
  (e : TypeId) (h1 : P.underlying t = some (.slice e)) {sz : Nat} (h2 : (P.info? e).map (fun i => i.size) = some sz) (g : Nat) (hs : a.eval s = .slice (some ⟨g, 0, none⟩) 0 0) (hx : a.eval x = .slice none 0 0) (hK : K (a.put o.dst (.slice (some ⟨g, 0, none⟩) 0 0)) w) :
  if Region.wanted o (yielded ops a.tmps) = true then Oper.wp P o a w K Q else E := by
 have hw : Region.wanted o (yielded ops a.tmps) = true := by simp [Region.wanted, hg]
 rw [if_pos hw]
 obtain ⟨i0, hi0, _⟩ := Option.map_eq_some_iff.1 h2
 have hr : (Builtin.append_ #[t, t] o.type #[.slice (some ⟨g, 0, none⟩) 0 0, .slice none 0 0]).run P w = .ok (.slice (some ⟨g, 0, none⟩) 0 0) w := by
  simp [Builtin.append_, run_underlying h1, sizeOf, typeInfo, hi0, Builtin.lenOf, Builtin.firstCells, storeCells]
 unfold Oper.wp execOp
 simp only [hop, resolve, invoke, builtin, Sem.run_bind, Sem.run_pure, Result.andThen_ok, List.map_toArray, List.map_cons, List.map_nil, hs, hx, hr]
 exact hK
theorem owns_cap {B : Nat} {e : TypeId} {size n : Nat} {w : World} {a : Option Addr} {l c : Nat} {xs : List Value} (h : w.ownsRow B e size (.slice a l c) n xs) : c ≤ maxLen := by
 obtain ⟨_, ⟨h1, _⟩ | ⟨g, cap, cur, h1, _, _, _, h2, _⟩⟩ := h
 ·cases h1; exact Nat.zero_le _
 ·cases h1; exact h2
theorem own_base {B : Nat} {e : TypeId} {size n : Nat} {w : World} {v : Value} {xs : List Value} (h : w.ownsRow B e size v n xs) (hn : 0 < n) : B ≤ w.heap.size := by
 obtain ⟨_, ⟨_, h1⟩ | ⟨g, cap, cur, _, h1, h2, _⟩⟩ := h
 ·omega
 ·have := (Array.getElem?_eq_some_iff.1 h2).1
  omega
theorem ps_form {w : World} {ap : Option Addr} {cp N : Nat} {l : List Pa} (hl : l.length = N) (h : IsD w (.slice ap N cp) (partsD l)) : N = 0 ∨ ∃ b off, ap = some ⟨b, off, none⟩ ∧ b < w.heap.size ∧ ∀ j, j < N * 7 → ∃ u, w.cell? ⟨b, off + j, none⟩ = some u ∧ IsD w u ((paAt l (j / 7)).cell (j % 7)) := by
 subst hl
 obtain ⟨a, cap, he, _, _, h9⟩ := IsD.parts (c := 7) (n := l.length) h
 cases he
 exact h9
def Fin5 (W0 : World) (m : Md) (d : List Int) (wf : World) (Kb : Nat) : Prop := ∃ n0 n1 avi cvi avh cvh avs cvs ad2 cd2 a12 asu csu a25, (W0.heap.size ≤ n0 ∧ W0.heap.size ≤ n1) ∧ MdF (fun j => n0 ≤ j ∧ j < n1) wf (.agg #[.int .i64 m.n, .int .i64 m.s, .slice avi m.i.length cvi, .slice avh m.h.length cvh, .slice avs m.e.length cvs, .int .i64 m.z]) m ∧ wf.ownsRow n1 3 1 (.slice ad2 d.length cd2) d.length (intCells d) ∧ Bk wf Kb 36 #[.int .i64 m.n, .int .i64 m.s, .slice avi m.i.length cvi, .slice avh m.h.length cvh, .slice avs m.e.length cvs, .int .i64 m.z, .slice ad2 d.length cd2, .slice none 0 0, .slice a12 0 0, .int .i64 6, .int .i64 (-1), .bool false, .slice asu 0 csu, .slice a25 0 0] ∧ Below W0.heap.size W0 wf ∧ W0.heap.size ≤ Kb ∧ (Kb < n0 ∨ n1 ≤ Kb) ∧ csu ≤ maxLen
theorem rows8 {m : Md} (h : m.ok = true) (j : Nat) : (hAt m.h j).length ≤ 8 := by
 by_cases hj : j < m.h.length
 ·simp only [Md.ok, Bool.and_eq_true, decide_eq_true_eq] at h
  have hr : rowB m (hAt m.h j) = true := List.all_eq_true.1 h.1.2 j (by simpa using hj)
  simp only [rowB, Bool.and_eq_true, decide_eq_true_eq] at hr
  exact hr.1
 ·have : hAt m.h j = [] := by unfold hAt; simp [List.getElem?_eq_none (show m.h.length ≤ j by omega)]
  rw [this]; simp
theorem small3 {m : Md} (h : m.ok = true) : m.i.length ≤ 4 ∧ m.h.length ≤ 4 ∧ m.e.length ≤ 6 := by
 simp only [Md.ok, Bool.and_eq_true, decide_eq_true_eq] at h
 have h1 := h.1.1.1
 unfold Md.hd at h1
 omega
def act5 (m : Md) (d : List Int) (ai : Option Addr) (ci : Nat) (ah : Option Addr) (ch : Nat) (ae : Option Addr) (ce : Nat) (ad : Option Addr) (cd : Nat) (ap : Option Addr) (cp N P Rb : Nat) (v3 v7 v8 v11 v12 v15 v24 v25 v28 v29 : Value) : Act := ⟨#[.agg #[.int .i64 m.n, .int .i64 m.s, .slice ai m.i.length ci, .slice ah m.h.length ch, .slice ae m.e.length ce, .int .i64 m.z, .slice ad d.length cd, .slice ap N cp, .slice none 0 0, .int .i64 6, .int .i64 (-1), .bool false, .slice none 0 0, .slice none 0 0], .pointer (some ⟨P, 0, none⟩), .pointer (some ⟨Rb, 0, none⟩), v3, undef, .pointer (some ⟨P, 0, none⟩), .agg #[.int .i64 m.n, .int .i64 m.s, .slice ai m.i.length ci, .slice ah m.h.length ch, .slice ae m.e.length ce, .int .i64 m.z], v7, v8, .pointer (some ⟨P, 6, none⟩), .slice ad d.length cd, v11, v12, .pointer (some ⟨P, 8, none⟩), .slice none 0 0, v15, .pointer (some ⟨P, 9, none⟩), .int .i64 6, .pointer (some ⟨P, 10, none⟩), .int .i64 (-1), .pointer (some ⟨P, 11, none⟩), .bool false, .pointer (some ⟨P, 12, none⟩), .slice none 0 0, v24, v25, .pointer (some ⟨P, 13, none⟩), .slice none 0 0, v28, v29, undef, undef, undef, undef, undef, undef, undef, undef, undef, undef, undef, undef, undef, undef, undef, undef, undef, undef, undef], []⟩
set_option maxRecDepth 100000 in
set_option maxHeartbeats 64000000 in
theorem own5_any (m : Md) (d : List Int) (ai : Option Addr) (ci : Nat) (ah : Option Addr) (ch : Nat) (ae : Option Addr) (ce : Nat) (ad : Option Addr) (cd : Nat) (ap : Option Addr) (cp N : Nat) (w : World) (hok : m.ok = true) (hN : N = m.n.toNat) (hdl : d.length = 4) (hM : IsM w (.agg #[.int .i64 m.n, .int .i64 m.s, .slice ai m.i.length ci, .slice ah m.h.length ch, .slice ae m.e.length ce, .int .i64 m.z]) m) (hD : IsD w (.slice ad d.length cd) (intsD d)) (hPs : IsD w (.slice ap N cp) (partsD (newPs m N))) :
  Calls Tryz.prog 27 #[.agg #[.int .i64 m.n, .int .i64 m.s, .slice ai m.i.length ci, .slice ah m.h.length ch, .slice ae m.e.length ce, .int .i64 m.z, .slice ad d.length cd, .slice ap N cp, .slice none 0 0, .int .i64 6, .int .i64 (-1), .bool false, .slice none 0 0, .slice none 0 0]] w fun e w' => (∃ y, e = .returned y ∧ KernF (fun j => w.heap.size ≤ j ∧ j < w'.heap.size) w' y (newK m d)) ∧ Below w.heap.size w w' := by
 have HM := hidKOw hM
 have HSD : Hid (∀ W, Below w.heap.size w W → SrcC W (.slice ad d.length cd) 1 d.length (intCells d)) := fun W hW => (IsD.srcI hD).below hW
 have HPS := hidKOw hPs
 have HDL : Hid (0 < d.length) := (by omega : 0 < d.length)
 have HD4 : Hid (d.length ≤ 4) := (by omega : d.length ≤ 4)
 have HML : Hid (∀ j, (hAt m.h j).length ≤ 8) := fun j => rows8 hok j
 have HMS := hidKOw (small3 hok)
 have HNK : Hid (newK m d = ⟨m, d, newPs m N, [], 6, -1, false, [], []⟩) := (by rw [hN]; rfl : newK m d = ⟨m, d, newPs m N, [], 6, -1, false, [], []⟩)
 have hN4 : N ≤ 4 := by have := ok_lps hok; omega
 clear hM hD hPs hdl hN hok
 obtain ⟨Rb, hRb⟩ : ∃ Rb, Rb = w.heap.size + 1 := ⟨_, rfl⟩
 obtain ⟨W0, hW0⟩ : ∃ W0, (w.alloc (.cells #[.int .i64 m.n, .int .i64 m.s, .slice ai m.i.length ci, .slice ah m.h.length ch, .slice ae m.e.length ce, .int .i64 m.z, .slice ad d.length cd, .slice ap N cp, .slice none 0 0, .int .i64 6, .int .i64 (-1), .bool false, .slice none 0 0, .slice none 0 0] 36)).alloc (.cells #[.int .i64 0, .int .i64 0, .slice none 0 0, .slice none 0 0, .slice none 0 0, .int .i64 0, .slice none 0 0, .slice none 0 0, .slice none 0 0, .int .i64 0, .int .i64 0, .bool false, .slice none 0 0, .slice none 0 0] 36) = W0 := ⟨_, rfl⟩
 have HP0 : Hid (Bk W0 w.heap.size 36 #[.int .i64 m.n, .int .i64 m.s, .slice ai m.i.length ci, .slice ah m.h.length ch, .slice ae m.e.length ce, .int .i64 m.z, .slice ad d.length cd, .slice ap N cp, .slice none 0 0, .int .i64 6, .int .i64 (-1), .bool false, .slice none 0 0, .slice none 0 0]) := hW0 ▸ (Bk.new w _ _).alloc _
 have HR0 : Hid (Bk W0 Rb 36 #[.int .i64 0, .int .i64 0, .slice none 0 0, .slice none 0 0, .slice none 0 0, .int .i64 0, .slice none 0 0, .slice none 0 0, .slice none 0 0, .int .i64 0, .int .i64 0, .bool false, .slice none 0 0, .slice none 0 0]) := by rw [← hW0]; exact Bk.newAt (by simp [hRb]) _ _
 have HB0 : Hid (Below w.heap.size w W0) := by rw [← hW0]; exact ((Below.refl _ w).alloc (Nat.le_refl _) _).alloc (by simp) _
 have HW0 := hidKOw hW0
 have HRB := hidKOw hRb
 have hRw : w.heap.size < Rb := by omega
 have hRW : Rb < W0.heap.size := HR0.out.lt
 clear hW0 hRb
 go_enter Tryz.func27, Tryz.ntmps27
 go_upto_region 1 with fail
 rw [HW0.out, ← HRB.out]
 clear HW0
 go_cut [3] from 4 (fun s3 wc => ∃ Kb, s3 = .pointer (some ⟨Kb, 0, none⟩) ∧ Fin5 W0 m d wc Kb)
 case first =>
  refine wp_region_z 26 (fun W => W.cell? ⟨w.heap.size, 0, none⟩ = some (.int .i64 m.n) ∧ W.cell? ⟨w.heap.size, 1, none⟩ = some (.int .i64 m.s) ∧ W.cell? ⟨w.heap.size, 2, none⟩ = some (.slice ai m.i.length ci) ∧ W.cell? ⟨w.heap.size, 3, none⟩ = some (.slice ah m.h.length ch) ∧ W.cell? ⟨w.heap.size, 4, none⟩ = some (.slice ae m.e.length ce) ∧ W.cell? ⟨w.heap.size, 5, none⟩ = some (.int .i64 m.z) ∧ W.cell? ⟨w.heap.size, 6, none⟩ = some (.slice ad d.length cd) ∧ W.cell? ⟨w.heap.size, 8, none⟩ = some (.slice none 0 0) ∧ W.cell? ⟨w.heap.size, 9, none⟩ = some (.int .i64 6) ∧ W.cell? ⟨w.heap.size, 10, none⟩ = some (.int .i64 (-1)) ∧ W.cell? ⟨w.heap.size, 11, none⟩ = some (.bool false) ∧ W.cell? ⟨w.heap.size, 12, none⟩ = some (.slice none 0 0) ∧ W.cell? ⟨w.heap.size, 13, none⟩ = some (.slice none 0 0)) (by kernel_rfl) (s5_of HP0.out.drew) (fun hHeld => ?_)
  have hBd : Below W0.heap.size W0 W0.drew := (Below.refl _ W0).drew
  refine tzKOw 0 { dst := some 5, op := Op.fieldAddr 36 (Operand.tmp 1) 0, type := 0, pos := _, after := _, guard := none } (.pointer (some ⟨w.heap.size, 0, none⟩)) ?_
  try simp only [Act.put, List.setIfInBounds_toArray, List.set_cons_zero, List.set_cons_succ]
  refine tzKOw 1 { dst := some 6, op := Op.load 31 (Operand.tmp 5), type := 31, pos := _, after := _, guard := none } (.agg #[.int .i64 m.n, .int .i64 m.s, .slice ai m.i.length ci, .slice ah m.h.length ch, .slice ae m.e.length ce, .int .i64 m.z]) ?_
  try simp only [Act.put, List.setIfInBounds_toArray, List.set_cons_zero, List.set_cons_succ]
  refine tzKOw 4 { dst := some 9, op := Op.fieldAddr 36 (Operand.tmp 1) 1, type := 0, pos := _, after := _, guard := none } (.pointer (some ⟨w.heap.size, 6, none⟩)) ?_
  try simp only [Act.put, List.setIfInBounds_toArray, List.set_cons_zero, List.set_cons_succ]
  refine tzKOw 5 { dst := some 10, op := Op.load 22 (Operand.tmp 9), type := 22, pos := _, after := _, guard := none } (.slice ad d.length cd) ?_
  try simp only [Act.put, List.setIfInBounds_toArray, List.set_cons_zero, List.set_cons_succ]
  refine tzKOw 8 { dst := some 13, op := Op.fieldAddr 36 (Operand.tmp 1) 3, type := 0, pos := _, after := _, guard := none } (.pointer (some ⟨w.heap.size, 8, none⟩)) ?_
  try simp only [Act.put, List.setIfInBounds_toArray, List.set_cons_zero, List.set_cons_succ]
  refine tzKOw 9 { dst := some 14, op := Op.load 33 (Operand.tmp 13), type := 33, pos := _, after := _, guard := none } (.slice none 0 0) ?_
  try simp only [Act.put, List.setIfInBounds_toArray, List.set_cons_zero, List.set_cons_succ]
  refine tzKOw 11 { dst := some 16, op := Op.fieldAddr 36 (Operand.tmp 1) 4, type := 0, pos := _, after := _, guard := none } (.pointer (some ⟨w.heap.size, 9, none⟩)) ?_
  try simp only [Act.put, List.setIfInBounds_toArray, List.set_cons_zero, List.set_cons_succ]
  refine tzKOw 12 { dst := some 17, op := Op.load 3 (Operand.tmp 16), type := 3, pos := _, after := _, guard := none } (.int .i64 6) ?_
  try simp only [Act.put, List.setIfInBounds_toArray, List.set_cons_zero, List.set_cons_succ]
  refine tzKOw 13 { dst := some 18, op := Op.fieldAddr 36 (Operand.tmp 1) 5, type := 0, pos := _, after := _, guard := none } (.pointer (some ⟨w.heap.size, 10, none⟩)) ?_
  try simp only [Act.put, List.setIfInBounds_toArray, List.set_cons_zero, List.set_cons_succ]
  refine tzKOw 14 { dst := some 19, op := Op.load 3 (Operand.tmp 18), type := 3, pos := _, after := _, guard := none } (.int .i64 (-1)) ?_
  try simp only [Act.put, List.setIfInBounds_toArray, List.set_cons_zero, List.set_cons_succ]
  refine tzKOw 15 { dst := some 20, op := Op.fieldAddr 36 (Operand.tmp 1) 6, type := 0, pos := _, after := _, guard := none } (.pointer (some ⟨w.heap.size, 11, none⟩)) ?_
  try simp only [Act.put, List.setIfInBounds_toArray, List.set_cons_zero, List.set_cons_succ]
  refine tzKOw 16 { dst := some 21, op := Op.load 4 (Operand.tmp 20), type := 4, pos := _, after := _, guard := none } (.bool false) ?_
  try simp only [Act.put, List.setIfInBounds_toArray, List.set_cons_zero, List.set_cons_succ]
  refine tzKOw 17 { dst := some 22, op := Op.fieldAddr 36 (Operand.tmp 1) 7, type := 0, pos := _, after := _, guard := none } (.pointer (some ⟨w.heap.size, 12, none⟩)) ?_
  try simp only [Act.put, List.setIfInBounds_toArray, List.set_cons_zero, List.set_cons_succ]
  refine tzKOw 18 { dst := some 23, op := Op.load 29 (Operand.tmp 22), type := 29, pos := _, after := _, guard := none } (.slice none 0 0) ?_
  try simp only [Act.put, List.setIfInBounds_toArray, List.set_cons_zero, List.set_cons_succ]
  refine tzKOw 21 { dst := some 26, op := Op.fieldAddr 36 (Operand.tmp 1) 8, type := 0, pos := _, after := _, guard := none } (.pointer (some ⟨w.heap.size, 13, none⟩)) ?_
  try simp only [Act.put, List.setIfInBounds_toArray, List.set_cons_zero, List.set_cons_succ]
  refine tzKOw 22 { dst := some 27, op := Op.load 34 (Operand.tmp 26), type := 34, pos := _, after := _, guard := none } (.slice none 0 0) ?_
  try simp only [Act.put, List.setIfInBounds_toArray, List.set_cons_zero, List.set_cons_succ]
  refine wpAnyZ_listed (l' := (bits5 6814515)) (by kernel_rfl) ?_
  refine with_goal (fun G hG => ?_)
  have HGE : Hid (G = _) := hG
  clear hG hHeld
  have st51111 : Hid (∀ (W : World) (n0 n1 : Nat) (avi : Option Addr) (cvi : Nat) (avh : Option Addr) (cvh : Nat) (avs : Option Addr) (cvs : Nat) (g8 : Nat) (ad2 : Option Addr) (cd2 : Nat) (g12 : Nat) (asu : Option Addr) (csu : Nat) (g25 : Nat) (Kb : Nat), Below W0.heap.size W0 W → (MdF (fun j => n0 ≤ j ∧ j < n1) W (.agg #[.int .i64 m.n, .int .i64 m.s, .slice avi m.i.length cvi, .slice avh m.h.length cvh, .slice avs m.e.length cvs, .int .i64 m.z]) m) → (W0.heap.size ≤ n0 ∧ W0.heap.size ≤ n1) → n1 ≤ W.heap.size → W.ownsRow n1 3 1 (.slice ad2 d.length cd2) d.length (intCells d) → csu ≤ maxLen → Bk W Kb 36 #[.int .i64 0, .int .i64 0, .slice none 0 0, .slice none 0 0, .slice none 0 0, .int .i64 0, .slice none 0 0, .slice none 0 0, .slice none 0 0, .int .i64 0, .int .i64 0, .bool false, .slice none 0 0, .slice none 0 0] → W0.heap.size ≤ Kb → (Kb < n0 ∨ n1 ≤ Kb) → G 1 (bits5 67108863) (act5 m d ai ci ah ch ae ce ad cd ap cp N w.heap.size Rb (.pointer (some ⟨Kb, 0, none⟩)) (.agg #[.int .i64 m.n, .int .i64 m.s, .slice avi m.i.length cvi, .slice avh m.h.length cvh, .slice avs m.e.length cvs, .int .i64 m.z]) (.slice (some ⟨g8, 0, none⟩) 0 0) (.slice ad2 d.length cd2) (.slice (some ⟨g12, 0, none⟩) 0 0) (.slice (some ⟨g12, 0, none⟩) 0 0) (.slice asu 0 csu) (.slice (some ⟨g25, 0, none⟩) 0 0) (.slice (some ⟨g25, 0, none⟩) 0 0) (.agg #[.int .i64 m.n, .int .i64 m.s, .slice avi m.i.length cvi, .slice avh m.h.length cvh, .slice avs m.e.length cvs, .int .i64 m.z, .slice ad2 d.length cd2, .slice none 0 0, .slice (some ⟨g12, 0, none⟩) 0 0, .int .i64 6, .int .i64 (-1), .bool false, .slice asu 0 csu, .slice (some ⟨g25, 0, none⟩) 0 0])) W) := by
   intro W n0 n1 avi cvi avh cvh avs cvs g8 ad2 cd2 g12 asu csu g25 Kb hB hM hn0 hn1 hD hsu hY hKw hKM
   rw [HGE.out]
   unfold act5
   refine wpAnyZ_ready (rs := [26]) (by kernel_rfl) (by simp) ?_
   refine AllReadyZ.last (o := { dst := none, op := Op.store 36 (Operand.tmp 3) (Operand.tmp 29), type := 0, pos := _, after := _, guard := none }) rfl (fun K hK => ?_)
   obtain ⟨k0, k1, k2, k3, k4, k5, k6, k7, k8, k9, k10, k11, k12, k13⟩ := c14_14 hY
   have kf := hY.free
   obtain ⟨wf, hwf⟩ : ∃ X, put14 W Kb (.int .i64 m.n) (.int .i64 m.s) (.slice avi m.i.length cvi) (.slice avh m.h.length cvh) (.slice avs m.e.length cvs) (.int .i64 m.z) (.slice ad2 d.length cd2) (.slice none 0 0) (.slice (some ⟨g12, 0, none⟩) 0 0) (.int .i64 6) (.int .i64 (-1)) (.bool false) (.slice asu 0 csu) (.slice (some ⟨g25, 0, none⟩) 0 0) = X := ⟨_, rfl⟩
   have ht : Turns (fun j => j = Kb) W wf := hwf ▸ put14_turns _ _ _ _ _ _ _ _ _ _ _ _ _ _ _ _
   have HFN : Hid (Fin5 W0 m d wf Kb) := ⟨n0, n1, avi, cvi, avh, cvh, avs, cvs, ad2, cd2, some ⟨g12, 0, none⟩, asu, csu, some ⟨g25, 0, none⟩, hn0, hM.turns ht (fun j hj e => by omega), owns_turns hD ht (fun j hj e => owns_ne hD hY (by decide) (e ▸ hj)), hwf ▸ hY.put14 _ _ _ _ _ _ _ _ _ _ _ _ _ _, hB.trans (ht.to_below (fun j hj => by omega) hB.size), hKw, hKM, hsu⟩
   unfold put14 at hwf
   have HWF : Hid _ := hwf
   clear hwf ht hM hD hY hB
   go_simp
   rw [HWF.out]
   clear HWF k0 k1 k2 k3 k4 k5 k6 k7 k8 k9 k10 k11 k12 k13 kf
   refine hK.out _ _ ?_
   clear hK K
   try simp only [Act.put, List.setIfInBounds_toArray, List.set_cons_zero, List.set_cons_succ]
   refine wpAnyZ_done (by kernel_rfl) ?_ _
   try go_wp2_with fail
   go_meet
   case rel => exact ⟨Kb, rfl, HFN.out⟩
  have st51110 : Hid (∀ (W : World) (n0 n1 : Nat) (avi : Option Addr) (cvi : Nat) (avh : Option Addr) (cvh : Nat) (avs : Option Addr) (cvs : Nat) (g8 : Nat) (ad2 : Option Addr) (cd2 : Nat) (g12 : Nat) (asu : Option Addr) (csu : Nat) (g25 : Nat), Below W0.heap.size W0 W → (MdF (fun j => n0 ≤ j ∧ j < n1) W (.agg #[.int .i64 m.n, .int .i64 m.s, .slice avi m.i.length cvi, .slice avh m.h.length cvh, .slice avs m.e.length cvs, .int .i64 m.z]) m) → (W0.heap.size ≤ n0 ∧ W0.heap.size ≤ n1) → n1 ≤ W.heap.size → W.ownsRow n1 3 1 (.slice ad2 d.length cd2) d.length (intCells d) → csu ≤ maxLen → G 2 (bits5 33554431) (act5 m d ai ci ah ch ae ce ad cd ap cp N w.heap.size Rb undef (.agg #[.int .i64 m.n, .int .i64 m.s, .slice avi m.i.length cvi, .slice avh m.h.length cvh, .slice avs m.e.length cvs, .int .i64 m.z]) (.slice (some ⟨g8, 0, none⟩) 0 0) (.slice ad2 d.length cd2) (.slice (some ⟨g12, 0, none⟩) 0 0) (.slice (some ⟨g12, 0, none⟩) 0 0) (.slice asu 0 csu) (.slice (some ⟨g25, 0, none⟩) 0 0) (.slice (some ⟨g25, 0, none⟩) 0 0) (.agg #[.int .i64 m.n, .int .i64 m.s, .slice avi m.i.length cvi, .slice avh m.h.length cvh, .slice avs m.e.length cvs, .int .i64 m.z, .slice ad2 d.length cd2, .slice none 0 0, .slice (some ⟨g12, 0, none⟩) 0 0, .int .i64 6, .int .i64 (-1), .bool false, .slice asu 0 csu, .slice (some ⟨g25, 0, none⟩) 0 0])) W) := by
   intro W n0 n1 avi cvi avh cvh avs cvs g8 ad2 cd2 g12 asu csu g25 hB hM hn0 hn1 hD hsu
   rw [HGE.out]
   unfold act5
   refine wpAnyZ_ready (rs := [25]) (by kernel_rfl) (by simp) ?_
   refine AllReadyZ.cons (i := 25) rfl (fun K hKK => ?_) AllReadyZ.nil
   ·obtain ⟨Kb, V, HX, HV, hb, hk⟩ := lay_any W #[.int .i64 0, .int .i64 0, .slice none 0 0, .slice none 0 0, .slice none 0 0, .int .i64 0, .slice none 0 0, .slice none 0 0, .slice none 0 0, .int .i64 0, .int .i64 0, .bool false, .slice none 0 0, .slice none 0 0] 36
    go_simp
    rw [HV.out, ← HX.out]
    have hB' : Below W0.heap.size W0 V := hB.trans (hb.mono hB.size)
    refine hKK.out _ _ (s5_of (HP0.out.below hB')) (fun hHeld => ?_)
    try simp only [Act.put, List.setIfInBounds_toArray]
    try simp only [List.set_cons_succ]
    try simp only [List.set_cons_zero]
    refine wpAnyZ_listed (l' := (bits5 67108863)) (by kernel_rfl) ?_
    rw [← HGE.out]
    exact st51111.out V n0 n1 avi cvi avh cvh avs cvs g8 ad2 cd2 g12 asu csu g25 Kb hB' (hM.below hb) hn0 (Nat.le_trans hn1 hb.size) (owns_turns (S := fun _ => False) hD (Turns.of_below hb) (fun _ _ => id)) hsu hk (HX.out ▸ hB.size) (.inr (HX.out ▸ hn1))
  have st41111 : Hid (∀ (W : World) (n0 n1 : Nat) (avi : Option Addr) (cvi : Nat) (avh : Option Addr) (cvh : Nat) (avs : Option Addr) (cvs : Nat) (g8 : Nat) (ad2 : Option Addr) (cd2 : Nat) (g12 : Nat) (asu : Option Addr) (csu : Nat) (g25 : Nat) (Kb : Nat), Below W0.heap.size W0 W → (MdF (fun j => n0 ≤ j ∧ j < n1) W (.agg #[.int .i64 m.n, .int .i64 m.s, .slice avi m.i.length cvi, .slice avh m.h.length cvh, .slice avs m.e.length cvs, .int .i64 m.z]) m) → (W0.heap.size ≤ n0 ∧ W0.heap.size ≤ n1) → n1 ≤ W.heap.size → W.ownsRow n1 3 1 (.slice ad2 d.length cd2) d.length (intCells d) → csu ≤ maxLen → Bk W Kb 36 #[.int .i64 0, .int .i64 0, .slice none 0 0, .slice none 0 0, .slice none 0 0, .int .i64 0, .slice none 0 0, .slice none 0 0, .slice none 0 0, .int .i64 0, .int .i64 0, .bool false, .slice none 0 0, .slice none 0 0] → W0.heap.size ≤ Kb → (Kb < n0 ∨ n1 ≤ Kb) → G 3 (bits5 41943039) (act5 m d ai ci ah ch ae ce ad cd ap cp N w.heap.size Rb (.pointer (some ⟨Kb, 0, none⟩)) (.agg #[.int .i64 m.n, .int .i64 m.s, .slice avi m.i.length cvi, .slice avh m.h.length cvh, .slice avs m.e.length cvs, .int .i64 m.z]) (.slice (some ⟨g8, 0, none⟩) 0 0) (.slice ad2 d.length cd2) (.slice (some ⟨g12, 0, none⟩) 0 0) (.slice (some ⟨g12, 0, none⟩) 0 0) (.slice asu 0 csu) (.slice (some ⟨g25, 0, none⟩) 0 0) undef undef) W) := by
   intro W n0 n1 avi cvi avh cvh avs cvs g8 ad2 cd2 g12 asu csu g25 Kb hB hM hn0 hn1 hD hsu hY hKw hKM
   rw [HGE.out]
   unfold act5
   refine wpAnyZ_ready (rs := [23]) (by kernel_rfl) (by simp) ?_
   refine AllReadyZ.cons (i := 23) rfl (fun K hKK => ?_) AllReadyZ.nil
   ·refine fresh_zero rfl (.tmp 25) (.tmp 27) 34 rfl 126 Tryz.underlying34 infoXm _ rfl rfl ?_
    refine hKK.out _ _ (s5_of (HP0.out.below hB)) (fun hHeld => ?_)
    try simp only [Act.put, List.setIfInBounds_toArray]
    try simp only [List.set_cons_succ]
    try simp only [List.set_cons_zero]
    refine tzKOw 24 { dst := some 29, op := Op.build 36 #[(0, Operand.tmp 7), (1, Operand.tmp 11), (3, Operand.tmp 15), (4, Operand.tmp 17), (5, Operand.tmp 19), (6, Operand.tmp 21), (7, Operand.tmp 24), (8, Operand.tmp 28)], type := 36, pos := _, after := _, guard := none } ((.agg #[.int .i64 m.n, .int .i64 m.s, .slice avi m.i.length cvi, .slice avh m.h.length cvh, .slice avs m.e.length cvs, .int .i64 m.z, .slice ad2 d.length cd2, .slice none 0 0, .slice (some ⟨g12, 0, none⟩) 0 0, .int .i64 6, .int .i64 (-1), .bool false, .slice asu 0 csu, .slice (some ⟨g25, 0, none⟩) 0 0])) ?_
    try simp only [Act.put]
    refine wpAnyZ_listed (l' := (bits5 67108863)) (by kernel_rfl) ?_
    rw [← HGE.out]
    exact st51111.out W n0 n1 avi cvi avh cvh avs cvs g8 ad2 cd2 g12 asu csu g25 Kb hB hM hn0 hn1 hD hsu hY hKw hKM
  have st31111 : Hid (∀ (W : World) (n0 n1 : Nat) (avi : Option Addr) (cvi : Nat) (avh : Option Addr) (cvh : Nat) (avs : Option Addr) (cvs : Nat) (g8 : Nat) (ad2 : Option Addr) (cd2 : Nat) (g12 : Nat) (g25 : Nat) (Kb : Nat), Below W0.heap.size W0 W → (MdF (fun j => n0 ≤ j ∧ j < n1) W (.agg #[.int .i64 m.n, .int .i64 m.s, .slice avi m.i.length cvi, .slice avh m.h.length cvh, .slice avs m.e.length cvs, .int .i64 m.z]) m) → (W0.heap.size ≤ n0 ∧ W0.heap.size ≤ n1) → n1 ≤ W.heap.size → W.ownsRow n1 3 1 (.slice ad2 d.length cd2) d.length (intCells d) → Bk W Kb 36 #[.int .i64 0, .int .i64 0, .slice none 0 0, .slice none 0 0, .slice none 0 0, .int .i64 0, .slice none 0 0, .slice none 0 0, .slice none 0 0, .int .i64 0, .int .i64 0, .bool false, .slice none 0 0, .slice none 0 0] → W0.heap.size ≤ Kb → (Kb < n0 ∨ n1 ≤ Kb) → G 4 (bits5 41418751) (act5 m d ai ci ah ch ae ce ad cd ap cp N w.heap.size Rb (.pointer (some ⟨Kb, 0, none⟩)) (.agg #[.int .i64 m.n, .int .i64 m.s, .slice avi m.i.length cvi, .slice avh m.h.length cvh, .slice avs m.e.length cvs, .int .i64 m.z]) (.slice (some ⟨g8, 0, none⟩) 0 0) (.slice ad2 d.length cd2) (.slice (some ⟨g12, 0, none⟩) 0 0) (.slice (some ⟨g12, 0, none⟩) 0 0) undef (.slice (some ⟨g25, 0, none⟩) 0 0) undef undef) W) := by
   intro W n0 n1 avi cvi avh cvh avs cvs g8 ad2 cd2 g12 g25 Kb hB hM hn0 hn1 hD hY hKw hKM
   rw [HGE.out]
   unfold act5
   refine wpAnyZ_ready (rs := [19]) (by kernel_rfl) (by simp) ?_
   refine AllReadyZ.cons (i := 19) rfl (fun K hKK => ?_) AllReadyZ.nil
   ·go_simp
    refine (l1own_src _ [] W (by simp) ⟨rfl, none, 0, rfl, .inl rfl⟩).mono ?_
    rintro e V ⟨y0, rfl, ho, hb⟩
    obtain ⟨asu, csu, rfl⟩ := owns_slice ho
    have hsu9 := owns_cap ho
    simp only [List.length_nil]
    try go_simp
    have hB' : Below W0.heap.size W0 V := hB.trans (hb.mono hB.size)
    refine hKK.out _ _ (s5_of (HP0.out.below hB')) (fun hHeld => ?_)
    try simp only [Act.put, List.setIfInBounds_toArray]
    try simp only [List.set_cons_succ]
    try simp only [List.set_cons_zero]
    refine wpAnyZ_listed (l' := (bits5 41943039)) (by kernel_rfl) ?_
    rw [← HGE.out]
    exact st41111.out V n0 n1 avi cvi avh cvh avs cvs g8 ad2 cd2 g12 asu csu g25 Kb hB' (hM.below hb) hn0 (Nat.le_trans hn1 hb.size) (owns_turns (S := fun _ => False) hD (Turns.of_below hb) (fun _ _ => id)) hsu9 (hY.below hb) hKw hKM
  have st41101 : Hid (∀ (W : World) (n0 n1 : Nat) (avi : Option Addr) (cvi : Nat) (avh : Option Addr) (cvh : Nat) (avs : Option Addr) (cvs : Nat) (g8 : Nat) (ad2 : Option Addr) (cd2 : Nat) (g12 : Nat) (asu : Option Addr) (csu : Nat) (Kb : Nat), Below W0.heap.size W0 W → (MdF (fun j => n0 ≤ j ∧ j < n1) W (.agg #[.int .i64 m.n, .int .i64 m.s, .slice avi m.i.length cvi, .slice avh m.h.length cvh, .slice avs m.e.length cvs, .int .i64 m.z]) m) → (W0.heap.size ≤ n0 ∧ W0.heap.size ≤ n1) → n1 ≤ W.heap.size → W.ownsRow n1 3 1 (.slice ad2 d.length cd2) d.length (intCells d) → csu ≤ maxLen → Bk W Kb 36 #[.int .i64 0, .int .i64 0, .slice none 0 0, .slice none 0 0, .slice none 0 0, .int .i64 0, .slice none 0 0, .slice none 0 0, .slice none 0 0, .int .i64 0, .int .i64 0, .bool false, .slice none 0 0, .slice none 0 0] → W0.heap.size ≤ Kb → (Kb < n0 ∨ n1 ≤ Kb) → G 4 (bits5 40894463) (act5 m d ai ci ah ch ae ce ad cd ap cp N w.heap.size Rb (.pointer (some ⟨Kb, 0, none⟩)) (.agg #[.int .i64 m.n, .int .i64 m.s, .slice avi m.i.length cvi, .slice avh m.h.length cvh, .slice avs m.e.length cvs, .int .i64 m.z]) (.slice (some ⟨g8, 0, none⟩) 0 0) (.slice ad2 d.length cd2) (.slice (some ⟨g12, 0, none⟩) 0 0) (.slice (some ⟨g12, 0, none⟩) 0 0) (.slice asu 0 csu) undef undef undef) W) := by
   intro W n0 n1 avi cvi avh cvh avs cvs g8 ad2 cd2 g12 asu csu Kb hB hM hn0 hn1 hD hsu hY hKw hKM
   rw [HGE.out]
   unfold act5
   refine wpAnyZ_ready (rs := [20]) (by kernel_rfl) (by simp) ?_
   refine AllReadyZ.cons (i := 20) rfl (fun K hKK => ?_) AllReadyZ.nil
   ·obtain ⟨g25, V, HX, HV, hb, hk⟩ := lay_any W #[] 126
    go_simp
    rw [HV.out, ← HX.out]
    have hB' : Below W0.heap.size W0 V := hB.trans (hb.mono hB.size)
    refine hKK.out _ _ (s5_of (HP0.out.below hB')) (fun hHeld => ?_)
    try simp only [Act.put, List.setIfInBounds_toArray]
    try simp only [List.set_cons_succ]
    try simp only [List.set_cons_zero]
    refine wpAnyZ_listed (l' := (bits5 41943039)) (by kernel_rfl) ?_
    rw [← HGE.out]
    exact st41111.out V n0 n1 avi cvi avh cvh avs cvs g8 ad2 cd2 g12 asu csu g25 Kb hB' (hM.below hb) hn0 (Nat.le_trans hn1 hb.size) (owns_turns (S := fun _ => False) hD (Turns.of_below hb) (fun _ _ => id)) hsu (hY.below hb) hKw hKM
  have st41110 : Hid (∀ (W : World) (n0 n1 : Nat) (avi : Option Addr) (cvi : Nat) (avh : Option Addr) (cvh : Nat) (avs : Option Addr) (cvs : Nat) (g8 : Nat) (ad2 : Option Addr) (cd2 : Nat) (g12 : Nat) (asu : Option Addr) (csu : Nat) (g25 : Nat), Below W0.heap.size W0 W → (MdF (fun j => n0 ≤ j ∧ j < n1) W (.agg #[.int .i64 m.n, .int .i64 m.s, .slice avi m.i.length cvi, .slice avh m.h.length cvh, .slice avs m.e.length cvs, .int .i64 m.z]) m) → (W0.heap.size ≤ n0 ∧ W0.heap.size ≤ n1) → n1 ≤ W.heap.size → W.ownsRow n1 3 1 (.slice ad2 d.length cd2) d.length (intCells d) → csu ≤ maxLen → G 4 (bits5 8388607) (act5 m d ai ci ah ch ae ce ad cd ap cp N w.heap.size Rb undef (.agg #[.int .i64 m.n, .int .i64 m.s, .slice avi m.i.length cvi, .slice avh m.h.length cvh, .slice avs m.e.length cvs, .int .i64 m.z]) (.slice (some ⟨g8, 0, none⟩) 0 0) (.slice ad2 d.length cd2) (.slice (some ⟨g12, 0, none⟩) 0 0) (.slice (some ⟨g12, 0, none⟩) 0 0) (.slice asu 0 csu) (.slice (some ⟨g25, 0, none⟩) 0 0) undef undef) W) := by
   intro W n0 n1 avi cvi avh cvh avs cvs g8 ad2 cd2 g12 asu csu g25 hB hM hn0 hn1 hD hsu
   rw [HGE.out]
   unfold act5
   refine wpAnyZ_ready (rs := [23, 25]) (by kernel_rfl) (by simp) ?_
   refine AllReadyZ.cons (i := 23) rfl (fun K hKK => ?_) (AllReadyZ.cons (i := 25) rfl (fun K hKK => ?_) AllReadyZ.nil)
   ·refine fresh_zero rfl (.tmp 25) (.tmp 27) 34 rfl 126 Tryz.underlying34 infoXm _ rfl rfl ?_
    refine hKK.out _ _ (s5_of (HP0.out.below hB)) (fun hHeld => ?_)
    try simp only [Act.put, List.setIfInBounds_toArray]
    try simp only [List.set_cons_succ]
    try simp only [List.set_cons_zero]
    refine tzKOw 24 { dst := some 29, op := Op.build 36 #[(0, Operand.tmp 7), (1, Operand.tmp 11), (3, Operand.tmp 15), (4, Operand.tmp 17), (5, Operand.tmp 19), (6, Operand.tmp 21), (7, Operand.tmp 24), (8, Operand.tmp 28)], type := 36, pos := _, after := _, guard := none } ((.agg #[.int .i64 m.n, .int .i64 m.s, .slice avi m.i.length cvi, .slice avh m.h.length cvh, .slice avs m.e.length cvs, .int .i64 m.z, .slice ad2 d.length cd2, .slice none 0 0, .slice (some ⟨g12, 0, none⟩) 0 0, .int .i64 6, .int .i64 (-1), .bool false, .slice asu 0 csu, .slice (some ⟨g25, 0, none⟩) 0 0])) ?_
    try simp only [Act.put]
    refine wpAnyZ_listed (l' := (bits5 33554431)) (by kernel_rfl) ?_
    rw [← HGE.out]
    exact st51110.out W n0 n1 avi cvi avh cvh avs cvs g8 ad2 cd2 g12 asu csu g25 hB hM hn0 hn1 hD hsu
   ·obtain ⟨Kb, V, HX, HV, hb, hk⟩ := lay_any W #[.int .i64 0, .int .i64 0, .slice none 0 0, .slice none 0 0, .slice none 0 0, .int .i64 0, .slice none 0 0, .slice none 0 0, .slice none 0 0, .int .i64 0, .int .i64 0, .bool false, .slice none 0 0, .slice none 0 0] 36
    go_simp
    rw [HV.out, ← HX.out]
    have hB' : Below W0.heap.size W0 V := hB.trans (hb.mono hB.size)
    refine hKK.out _ _ (s5_of (HP0.out.below hB')) (fun hHeld => ?_)
    try simp only [Act.put, List.setIfInBounds_toArray]
    try simp only [List.set_cons_succ]
    try simp only [List.set_cons_zero]
    refine wpAnyZ_listed (l' := (bits5 41943039)) (by kernel_rfl) ?_
    rw [← HGE.out]
    exact st41111.out V n0 n1 avi cvi avh cvh avs cvs g8 ad2 cd2 g12 asu csu g25 Kb hB' (hM.below hb) hn0 (Nat.le_trans hn1 hb.size) (owns_turns (S := fun _ => False) hD (Turns.of_below hb) (fun _ _ => id)) hsu hk (HX.out ▸ hB.size) (.inr (HX.out ▸ hn1))
  have st21111 : Hid (∀ (W : World) (n0 n1 : Nat) (avi : Option Addr) (cvi : Nat) (avh : Option Addr) (cvh : Nat) (avs : Option Addr) (cvs : Nat) (g8 : Nat) (ad2 : Option Addr) (cd2 : Nat) (g12 : Nat) (g25 : Nat) (Kb : Nat), Below W0.heap.size W0 W → (MdF (fun j => n0 ≤ j ∧ j < n1) W (.agg #[.int .i64 m.n, .int .i64 m.s, .slice avi m.i.length cvi, .slice avh m.h.length cvh, .slice avs m.e.length cvs, .int .i64 m.z]) m) → (W0.heap.size ≤ n0 ∧ W0.heap.size ≤ n1) → n1 ≤ W.heap.size → W.ownsRow n1 3 1 (.slice ad2 d.length cd2) d.length (intCells d) → Bk W Kb 36 #[.int .i64 0, .int .i64 0, .slice none 0 0, .slice none 0 0, .slice none 0 0, .int .i64 0, .slice none 0 0, .slice none 0 0, .slice none 0 0, .int .i64 0, .int .i64 0, .bool false, .slice none 0 0, .slice none 0 0] → W0.heap.size ≤ Kb → (Kb < n0 ∨ n1 ≤ Kb) → G 5 (bits5 41417727) (act5 m d ai ci ah ch ae ce ad cd ap cp N w.heap.size Rb (.pointer (some ⟨Kb, 0, none⟩)) (.agg #[.int .i64 m.n, .int .i64 m.s, .slice avi m.i.length cvi, .slice avh m.h.length cvh, .slice avs m.e.length cvs, .int .i64 m.z]) (.slice (some ⟨g8, 0, none⟩) 0 0) (.slice ad2 d.length cd2) (.slice (some ⟨g12, 0, none⟩) 0 0) undef undef (.slice (some ⟨g25, 0, none⟩) 0 0) undef undef) W) := by
   intro W n0 n1 avi cvi avh cvh avs cvs g8 ad2 cd2 g12 g25 Kb hB hM hn0 hn1 hD hY hKw hKM
   rw [HGE.out]
   unfold act5
   refine wpAnyZ_ready (rs := [10]) (by kernel_rfl) (by simp) ?_
   refine AllReadyZ.cons (i := 10) rfl (fun K hKK => ?_) AllReadyZ.nil
   ·refine fresh_zero rfl (.tmp 12) (.tmp 14) 33 rfl 122 Tryz.underlying33 infoM9 _ rfl rfl ?_
    refine hKK.out _ _ (s5_of (HP0.out.below hB)) (fun hHeld => ?_)
    try simp only [Act.put, List.setIfInBounds_toArray]
    try simp only [List.set_cons_succ]
    try simp only [List.set_cons_zero]
    refine wpAnyZ_listed (l' := (bits5 41418751)) (by kernel_rfl) ?_
    rw [← HGE.out]
    exact st31111.out W n0 n1 avi cvi avh cvh avs cvs g8 ad2 cd2 g12 g25 Kb hB hM hn0 hn1 hD hY hKw hKM
  have st31101 : Hid (∀ (W : World) (n0 n1 : Nat) (avi : Option Addr) (cvi : Nat) (avh : Option Addr) (cvh : Nat) (avs : Option Addr) (cvs : Nat) (g8 : Nat) (ad2 : Option Addr) (cd2 : Nat) (g12 : Nat) (Kb : Nat), Below W0.heap.size W0 W → (MdF (fun j => n0 ≤ j ∧ j < n1) W (.agg #[.int .i64 m.n, .int .i64 m.s, .slice avi m.i.length cvi, .slice avh m.h.length cvh, .slice avs m.e.length cvs, .int .i64 m.z]) m) → (W0.heap.size ≤ n0 ∧ W0.heap.size ≤ n1) → n1 ≤ W.heap.size → W.ownsRow n1 3 1 (.slice ad2 d.length cd2) d.length (intCells d) → Bk W Kb 36 #[.int .i64 0, .int .i64 0, .slice none 0 0, .slice none 0 0, .slice none 0 0, .int .i64 0, .slice none 0 0, .slice none 0 0, .slice none 0 0, .int .i64 0, .int .i64 0, .bool false, .slice none 0 0, .slice none 0 0] → W0.heap.size ≤ Kb → (Kb < n0 ∨ n1 ≤ Kb) → G 5 (bits5 40370175) (act5 m d ai ci ah ch ae ce ad cd ap cp N w.heap.size Rb (.pointer (some ⟨Kb, 0, none⟩)) (.agg #[.int .i64 m.n, .int .i64 m.s, .slice avi m.i.length cvi, .slice avh m.h.length cvh, .slice avs m.e.length cvs, .int .i64 m.z]) (.slice (some ⟨g8, 0, none⟩) 0 0) (.slice ad2 d.length cd2) (.slice (some ⟨g12, 0, none⟩) 0 0) (.slice (some ⟨g12, 0, none⟩) 0 0) undef undef undef undef) W) := by
   intro W n0 n1 avi cvi avh cvh avs cvs g8 ad2 cd2 g12 Kb hB hM hn0 hn1 hD hY hKw hKM
   rw [HGE.out]
   unfold act5
   refine wpAnyZ_ready (rs := [19, 20]) (by kernel_rfl) (by simp) ?_
   refine AllReadyZ.cons (i := 19) rfl (fun K hKK => ?_) (AllReadyZ.cons (i := 20) rfl (fun K hKK => ?_) AllReadyZ.nil)
   ·go_simp
    refine (l1own_src _ [] W (by simp) ⟨rfl, none, 0, rfl, .inl rfl⟩).mono ?_
    rintro e V ⟨y0, rfl, ho, hb⟩
    obtain ⟨asu, csu, rfl⟩ := owns_slice ho
    have hsu9 := owns_cap ho
    simp only [List.length_nil]
    try go_simp
    have hB' : Below W0.heap.size W0 V := hB.trans (hb.mono hB.size)
    refine hKK.out _ _ (s5_of (HP0.out.below hB')) (fun hHeld => ?_)
    try simp only [Act.put, List.setIfInBounds_toArray]
    try simp only [List.set_cons_succ]
    try simp only [List.set_cons_zero]
    refine wpAnyZ_listed (l' := (bits5 40894463)) (by kernel_rfl) ?_
    rw [← HGE.out]
    exact st41101.out V n0 n1 avi cvi avh cvh avs cvs g8 ad2 cd2 g12 asu csu Kb hB' (hM.below hb) hn0 (Nat.le_trans hn1 hb.size) (owns_turns (S := fun _ => False) hD (Turns.of_below hb) (fun _ _ => id)) hsu9 (hY.below hb) hKw hKM
   ·obtain ⟨g25, V, HX, HV, hb, hk⟩ := lay_any W #[] 126
    go_simp
    rw [HV.out, ← HX.out]
    have hB' : Below W0.heap.size W0 V := hB.trans (hb.mono hB.size)
    refine hKK.out _ _ (s5_of (HP0.out.below hB')) (fun hHeld => ?_)
    try simp only [Act.put, List.setIfInBounds_toArray]
    try simp only [List.set_cons_succ]
    try simp only [List.set_cons_zero]
    refine wpAnyZ_listed (l' := (bits5 41418751)) (by kernel_rfl) ?_
    rw [← HGE.out]
    exact st31111.out V n0 n1 avi cvi avh cvh avs cvs g8 ad2 cd2 g12 g25 Kb hB' (hM.below hb) hn0 (Nat.le_trans hn1 hb.size) (owns_turns (S := fun _ => False) hD (Turns.of_below hb) (fun _ _ => id)) (hY.below hb) hKw hKM
  have st31110 : Hid (∀ (W : World) (n0 n1 : Nat) (avi : Option Addr) (cvi : Nat) (avh : Option Addr) (cvh : Nat) (avs : Option Addr) (cvs : Nat) (g8 : Nat) (ad2 : Option Addr) (cd2 : Nat) (g12 : Nat) (g25 : Nat), Below W0.heap.size W0 W → (MdF (fun j => n0 ≤ j ∧ j < n1) W (.agg #[.int .i64 m.n, .int .i64 m.s, .slice avi m.i.length cvi, .slice avh m.h.length cvh, .slice avs m.e.length cvs, .int .i64 m.z]) m) → (W0.heap.size ≤ n0 ∧ W0.heap.size ≤ n1) → n1 ≤ W.heap.size → W.ownsRow n1 3 1 (.slice ad2 d.length cd2) d.length (intCells d) → G 5 (bits5 7864319) (act5 m d ai ci ah ch ae ce ad cd ap cp N w.heap.size Rb undef (.agg #[.int .i64 m.n, .int .i64 m.s, .slice avi m.i.length cvi, .slice avh m.h.length cvh, .slice avs m.e.length cvs, .int .i64 m.z]) (.slice (some ⟨g8, 0, none⟩) 0 0) (.slice ad2 d.length cd2) (.slice (some ⟨g12, 0, none⟩) 0 0) (.slice (some ⟨g12, 0, none⟩) 0 0) undef (.slice (some ⟨g25, 0, none⟩) 0 0) undef undef) W) := by
   intro W n0 n1 avi cvi avh cvh avs cvs g8 ad2 cd2 g12 g25 hB hM hn0 hn1 hD
   rw [HGE.out]
   unfold act5
   refine wpAnyZ_ready (rs := [19, 25]) (by kernel_rfl) (by simp) ?_
   refine AllReadyZ.cons (i := 19) rfl (fun K hKK => ?_) (AllReadyZ.cons (i := 25) rfl (fun K hKK => ?_) AllReadyZ.nil)
   ·go_simp
    refine (l1own_src _ [] W (by simp) ⟨rfl, none, 0, rfl, .inl rfl⟩).mono ?_
    rintro e V ⟨y0, rfl, ho, hb⟩
    obtain ⟨asu, csu, rfl⟩ := owns_slice ho
    have hsu9 := owns_cap ho
    simp only [List.length_nil]
    try go_simp
    have hB' : Below W0.heap.size W0 V := hB.trans (hb.mono hB.size)
    refine hKK.out _ _ (s5_of (HP0.out.below hB')) (fun hHeld => ?_)
    try simp only [Act.put, List.setIfInBounds_toArray]
    try simp only [List.set_cons_succ]
    try simp only [List.set_cons_zero]
    refine wpAnyZ_listed (l' := (bits5 8388607)) (by kernel_rfl) ?_
    rw [← HGE.out]
    exact st41110.out V n0 n1 avi cvi avh cvh avs cvs g8 ad2 cd2 g12 asu csu g25 hB' (hM.below hb) hn0 (Nat.le_trans hn1 hb.size) (owns_turns (S := fun _ => False) hD (Turns.of_below hb) (fun _ _ => id)) hsu9
   ·obtain ⟨Kb, V, HX, HV, hb, hk⟩ := lay_any W #[.int .i64 0, .int .i64 0, .slice none 0 0, .slice none 0 0, .slice none 0 0, .int .i64 0, .slice none 0 0, .slice none 0 0, .slice none 0 0, .int .i64 0, .int .i64 0, .bool false, .slice none 0 0, .slice none 0 0] 36
    go_simp
    rw [HV.out, ← HX.out]
    have hB' : Below W0.heap.size W0 V := hB.trans (hb.mono hB.size)
    refine hKK.out _ _ (s5_of (HP0.out.below hB')) (fun hHeld => ?_)
    try simp only [Act.put, List.setIfInBounds_toArray]
    try simp only [List.set_cons_succ]
    try simp only [List.set_cons_zero]
    refine wpAnyZ_listed (l' := (bits5 41418751)) (by kernel_rfl) ?_
    rw [← HGE.out]
    exact st31111.out V n0 n1 avi cvi avh cvh avs cvs g8 ad2 cd2 g12 g25 Kb hB' (hM.below hb) hn0 (Nat.le_trans hn1 hb.size) (owns_turns (S := fun _ => False) hD (Turns.of_below hb) (fun _ _ => id)) hk (HX.out ▸ hB.size) (.inr (HX.out ▸ hn1))
  have st41100 : Hid (∀ (W : World) (n0 n1 : Nat) (avi : Option Addr) (cvi : Nat) (avh : Option Addr) (cvh : Nat) (avs : Option Addr) (cvs : Nat) (g8 : Nat) (ad2 : Option Addr) (cd2 : Nat) (g12 : Nat) (asu : Option Addr) (csu : Nat), Below W0.heap.size W0 W → (MdF (fun j => n0 ≤ j ∧ j < n1) W (.agg #[.int .i64 m.n, .int .i64 m.s, .slice avi m.i.length cvi, .slice avh m.h.length cvh, .slice avs m.e.length cvs, .int .i64 m.z]) m) → (W0.heap.size ≤ n0 ∧ W0.heap.size ≤ n1) → n1 ≤ W.heap.size → W.ownsRow n1 3 1 (.slice ad2 d.length cd2) d.length (intCells d) → csu ≤ maxLen → G 5 (bits5 7340031) (act5 m d ai ci ah ch ae ce ad cd ap cp N w.heap.size Rb undef (.agg #[.int .i64 m.n, .int .i64 m.s, .slice avi m.i.length cvi, .slice avh m.h.length cvh, .slice avs m.e.length cvs, .int .i64 m.z]) (.slice (some ⟨g8, 0, none⟩) 0 0) (.slice ad2 d.length cd2) (.slice (some ⟨g12, 0, none⟩) 0 0) (.slice (some ⟨g12, 0, none⟩) 0 0) (.slice asu 0 csu) undef undef undef) W) := by
   intro W n0 n1 avi cvi avh cvh avs cvs g8 ad2 cd2 g12 asu csu hB hM hn0 hn1 hD hsu
   rw [HGE.out]
   unfold act5
   refine wpAnyZ_ready (rs := [20, 25]) (by kernel_rfl) (by simp) ?_
   refine AllReadyZ.cons (i := 20) rfl (fun K hKK => ?_) (AllReadyZ.cons (i := 25) rfl (fun K hKK => ?_) AllReadyZ.nil)
   ·obtain ⟨g25, V, HX, HV, hb, hk⟩ := lay_any W #[] 126
    go_simp
    rw [HV.out, ← HX.out]
    have hB' : Below W0.heap.size W0 V := hB.trans (hb.mono hB.size)
    refine hKK.out _ _ (s5_of (HP0.out.below hB')) (fun hHeld => ?_)
    try simp only [Act.put, List.setIfInBounds_toArray]
    try simp only [List.set_cons_succ]
    try simp only [List.set_cons_zero]
    refine wpAnyZ_listed (l' := (bits5 8388607)) (by kernel_rfl) ?_
    rw [← HGE.out]
    exact st41110.out V n0 n1 avi cvi avh cvh avs cvs g8 ad2 cd2 g12 asu csu g25 hB' (hM.below hb) hn0 (Nat.le_trans hn1 hb.size) (owns_turns (S := fun _ => False) hD (Turns.of_below hb) (fun _ _ => id)) hsu
   ·obtain ⟨Kb, V, HX, HV, hb, hk⟩ := lay_any W #[.int .i64 0, .int .i64 0, .slice none 0 0, .slice none 0 0, .slice none 0 0, .int .i64 0, .slice none 0 0, .slice none 0 0, .slice none 0 0, .int .i64 0, .int .i64 0, .bool false, .slice none 0 0, .slice none 0 0] 36
    go_simp
    rw [HV.out, ← HX.out]
    have hB' : Below W0.heap.size W0 V := hB.trans (hb.mono hB.size)
    refine hKK.out _ _ (s5_of (HP0.out.below hB')) (fun hHeld => ?_)
    try simp only [Act.put, List.setIfInBounds_toArray]
    try simp only [List.set_cons_succ]
    try simp only [List.set_cons_zero]
    refine wpAnyZ_listed (l' := (bits5 40894463)) (by kernel_rfl) ?_
    rw [← HGE.out]
    exact st41101.out V n0 n1 avi cvi avh cvh avs cvs g8 ad2 cd2 g12 asu csu Kb hB' (hM.below hb) hn0 (Nat.le_trans hn1 hb.size) (owns_turns (S := fun _ => False) hD (Turns.of_below hb) (fun _ _ => id)) hsu hk (HX.out ▸ hB.size) (.inr (HX.out ▸ hn1))
  have st11111 : Hid (∀ (W : World) (n0 n1 : Nat) (avi : Option Addr) (cvi : Nat) (avh : Option Addr) (cvh : Nat) (avs : Option Addr) (cvs : Nat) (g8 : Nat) (g12 : Nat) (g25 : Nat) (Kb : Nat), Below W0.heap.size W0 W → (MdF (fun j => n0 ≤ j ∧ j < n1) W (.agg #[.int .i64 m.n, .int .i64 m.s, .slice avi m.i.length cvi, .slice avh m.h.length cvh, .slice avs m.e.length cvs, .int .i64 m.z]) m) → (W0.heap.size ≤ n0 ∧ W0.heap.size ≤ n1) → n1 ≤ W.heap.size → Bk W Kb 36 #[.int .i64 0, .int .i64 0, .slice none 0 0, .slice none 0 0, .slice none 0 0, .int .i64 0, .slice none 0 0, .slice none 0 0, .slice none 0 0, .int .i64 0, .int .i64 0, .bool false, .slice none 0 0, .slice none 0 0] → W0.heap.size ≤ Kb → (Kb < n0 ∨ n1 ≤ Kb) → G 6 (bits5 41417663) (act5 m d ai ci ah ch ae ce ad cd ap cp N w.heap.size Rb (.pointer (some ⟨Kb, 0, none⟩)) (.agg #[.int .i64 m.n, .int .i64 m.s, .slice avi m.i.length cvi, .slice avh m.h.length cvh, .slice avs m.e.length cvs, .int .i64 m.z]) (.slice (some ⟨g8, 0, none⟩) 0 0) undef (.slice (some ⟨g12, 0, none⟩) 0 0) undef undef (.slice (some ⟨g25, 0, none⟩) 0 0) undef undef) W) := by
   intro W n0 n1 avi cvi avh cvh avs cvs g8 g12 g25 Kb hB hM hn0 hn1 hY hKw hKM
   rw [HGE.out]
   unfold act5
   refine wpAnyZ_ready (rs := [6]) (by kernel_rfl) (by simp) ?_
   refine AllReadyZ.cons (i := 6) rfl (fun K hKK => ?_) AllReadyZ.nil
   ·obtain ⟨i0, hi0, hz0, hz1, hz2⟩ := info_parts info3
    refine fresh_pos rfl (.tmp 8) (.tmp 10) 22 rfl 3 i0 (.int .i64 0) 1 8 Tryz.underlying22 hi0 hz0 hz1 hz2 rfl (by decide) g8 rfl (.slice ad d.length cd) d.length (intCells d) rfl (HSD.out W (HB0.out.trans (hB.mono HB0.out.size))) HDL.out (by unfold maxLen; have h9 := HD4.out; omega) (by have h9 := HD4.out; omega) ?_
    intro v' V ho hb
    obtain ⟨ad2, cd2, rfl⟩ := owns_slice ho
    have hD' : V.ownsRow n1 3 1 (.slice ad2 d.length cd2) d.length (intCells d) := owns_mono ho hn1
    have hB' : Below W0.heap.size W0 V := hB.trans (hb.mono hB.size)
    refine hKK.out _ _ (s5_of (HP0.out.below hB')) (fun hHeld => ?_)
    try simp only [Act.put, List.setIfInBounds_toArray]
    try simp only [List.set_cons_succ]
    try simp only [List.set_cons_zero]
    refine wpAnyZ_listed (l' := (bits5 41417727)) (by kernel_rfl) ?_
    rw [← HGE.out]
    exact st21111.out V n0 n1 avi cvi avh cvh avs cvs g8 ad2 cd2 g12 g25 Kb hB' (hM.below hb) hn0 (Nat.le_trans hn1 hb.size) hD' (hY.below hb) hKw hKM
  have st21011 : Hid (∀ (W : World) (n0 n1 : Nat) (avi : Option Addr) (cvi : Nat) (avh : Option Addr) (cvh : Nat) (avs : Option Addr) (cvs : Nat) (g8 : Nat) (ad2 : Option Addr) (cd2 : Nat) (g25 : Nat) (Kb : Nat), Below W0.heap.size W0 W → (MdF (fun j => n0 ≤ j ∧ j < n1) W (.agg #[.int .i64 m.n, .int .i64 m.s, .slice avi m.i.length cvi, .slice avh m.h.length cvh, .slice avs m.e.length cvs, .int .i64 m.z]) m) → (W0.heap.size ≤ n0 ∧ W0.heap.size ≤ n1) → n1 ≤ W.heap.size → W.ownsRow n1 3 1 (.slice ad2 d.length cd2) d.length (intCells d) → Bk W Kb 36 #[.int .i64 0, .int .i64 0, .slice none 0 0, .slice none 0 0, .slice none 0 0, .int .i64 0, .slice none 0 0, .slice none 0 0, .slice none 0 0, .int .i64 0, .int .i64 0, .bool false, .slice none 0 0, .slice none 0 0] → W0.heap.size ≤ Kb → (Kb < n0 ∨ n1 ≤ Kb) → G 6 (bits5 41417599) (act5 m d ai ci ah ch ae ce ad cd ap cp N w.heap.size Rb (.pointer (some ⟨Kb, 0, none⟩)) (.agg #[.int .i64 m.n, .int .i64 m.s, .slice avi m.i.length cvi, .slice avh m.h.length cvh, .slice avs m.e.length cvs, .int .i64 m.z]) (.slice (some ⟨g8, 0, none⟩) 0 0) (.slice ad2 d.length cd2) undef undef undef (.slice (some ⟨g25, 0, none⟩) 0 0) undef undef) W) := by
   intro W n0 n1 avi cvi avh cvh avs cvs g8 ad2 cd2 g25 Kb hB hM hn0 hn1 hD hY hKw hKM
   rw [HGE.out]
   unfold act5
   refine wpAnyZ_ready (rs := [7]) (by kernel_rfl) (by simp) ?_
   refine AllReadyZ.cons (i := 7) rfl (fun K hKK => ?_) AllReadyZ.nil
   ·obtain ⟨g12, V, HX, HV, hb, hk⟩ := lay_any W #[] 122
    go_simp
    rw [HV.out, ← HX.out]
    have hB' : Below W0.heap.size W0 V := hB.trans (hb.mono hB.size)
    refine hKK.out _ _ (s5_of (HP0.out.below hB')) (fun hHeld => ?_)
    try simp only [Act.put, List.setIfInBounds_toArray]
    try simp only [List.set_cons_succ]
    try simp only [List.set_cons_zero]
    refine wpAnyZ_listed (l' := (bits5 41417727)) (by kernel_rfl) ?_
    rw [← HGE.out]
    exact st21111.out V n0 n1 avi cvi avh cvh avs cvs g8 ad2 cd2 g12 g25 Kb hB' (hM.below hb) hn0 (Nat.le_trans hn1 hb.size) (owns_turns (S := fun _ => False) hD (Turns.of_below hb) (fun _ _ => id)) (hY.below hb) hKw hKM
  have st21101 : Hid (∀ (W : World) (n0 n1 : Nat) (avi : Option Addr) (cvi : Nat) (avh : Option Addr) (cvh : Nat) (avs : Option Addr) (cvs : Nat) (g8 : Nat) (ad2 : Option Addr) (cd2 : Nat) (g12 : Nat) (Kb : Nat), Below W0.heap.size W0 W → (MdF (fun j => n0 ≤ j ∧ j < n1) W (.agg #[.int .i64 m.n, .int .i64 m.s, .slice avi m.i.length cvi, .slice avh m.h.length cvh, .slice avs m.e.length cvs, .int .i64 m.z]) m) → (W0.heap.size ≤ n0 ∧ W0.heap.size ≤ n1) → n1 ≤ W.heap.size → W.ownsRow n1 3 1 (.slice ad2 d.length cd2) d.length (intCells d) → Bk W Kb 36 #[.int .i64 0, .int .i64 0, .slice none 0 0, .slice none 0 0, .slice none 0 0, .int .i64 0, .slice none 0 0, .slice none 0 0, .slice none 0 0, .int .i64 0, .int .i64 0, .bool false, .slice none 0 0, .slice none 0 0] → W0.heap.size ≤ Kb → (Kb < n0 ∨ n1 ≤ Kb) → G 6 (bits5 40369151) (act5 m d ai ci ah ch ae ce ad cd ap cp N w.heap.size Rb (.pointer (some ⟨Kb, 0, none⟩)) (.agg #[.int .i64 m.n, .int .i64 m.s, .slice avi m.i.length cvi, .slice avh m.h.length cvh, .slice avs m.e.length cvs, .int .i64 m.z]) (.slice (some ⟨g8, 0, none⟩) 0 0) (.slice ad2 d.length cd2) (.slice (some ⟨g12, 0, none⟩) 0 0) undef undef undef undef undef) W) := by
   intro W n0 n1 avi cvi avh cvh avs cvs g8 ad2 cd2 g12 Kb hB hM hn0 hn1 hD hY hKw hKM
   rw [HGE.out]
   unfold act5
   refine wpAnyZ_ready (rs := [10, 20]) (by kernel_rfl) (by simp) ?_
   refine AllReadyZ.cons (i := 10) rfl (fun K hKK => ?_) (AllReadyZ.cons (i := 20) rfl (fun K hKK => ?_) AllReadyZ.nil)
   ·refine fresh_zero rfl (.tmp 12) (.tmp 14) 33 rfl 122 Tryz.underlying33 infoM9 _ rfl rfl ?_
    refine hKK.out _ _ (s5_of (HP0.out.below hB)) (fun hHeld => ?_)
    try simp only [Act.put, List.setIfInBounds_toArray]
    try simp only [List.set_cons_succ]
    try simp only [List.set_cons_zero]
    refine wpAnyZ_listed (l' := (bits5 40370175)) (by kernel_rfl) ?_
    rw [← HGE.out]
    exact st31101.out W n0 n1 avi cvi avh cvh avs cvs g8 ad2 cd2 g12 Kb hB hM hn0 hn1 hD hY hKw hKM
   ·obtain ⟨g25, V, HX, HV, hb, hk⟩ := lay_any W #[] 126
    go_simp
    rw [HV.out, ← HX.out]
    have hB' : Below W0.heap.size W0 V := hB.trans (hb.mono hB.size)
    refine hKK.out _ _ (s5_of (HP0.out.below hB')) (fun hHeld => ?_)
    try simp only [Act.put, List.setIfInBounds_toArray]
    try simp only [List.set_cons_succ]
    try simp only [List.set_cons_zero]
    refine wpAnyZ_listed (l' := (bits5 41417727)) (by kernel_rfl) ?_
    rw [← HGE.out]
    exact st21111.out V n0 n1 avi cvi avh cvh avs cvs g8 ad2 cd2 g12 g25 Kb hB' (hM.below hb) hn0 (Nat.le_trans hn1 hb.size) (owns_turns (S := fun _ => False) hD (Turns.of_below hb) (fun _ _ => id)) (hY.below hb) hKw hKM
  have st21110 : Hid (∀ (W : World) (n0 n1 : Nat) (avi : Option Addr) (cvi : Nat) (avh : Option Addr) (cvh : Nat) (avs : Option Addr) (cvs : Nat) (g8 : Nat) (ad2 : Option Addr) (cd2 : Nat) (g12 : Nat) (g25 : Nat), Below W0.heap.size W0 W → (MdF (fun j => n0 ≤ j ∧ j < n1) W (.agg #[.int .i64 m.n, .int .i64 m.s, .slice avi m.i.length cvi, .slice avh m.h.length cvh, .slice avs m.e.length cvs, .int .i64 m.z]) m) → (W0.heap.size ≤ n0 ∧ W0.heap.size ≤ n1) → n1 ≤ W.heap.size → W.ownsRow n1 3 1 (.slice ad2 d.length cd2) d.length (intCells d) → G 6 (bits5 7863295) (act5 m d ai ci ah ch ae ce ad cd ap cp N w.heap.size Rb undef (.agg #[.int .i64 m.n, .int .i64 m.s, .slice avi m.i.length cvi, .slice avh m.h.length cvh, .slice avs m.e.length cvs, .int .i64 m.z]) (.slice (some ⟨g8, 0, none⟩) 0 0) (.slice ad2 d.length cd2) (.slice (some ⟨g12, 0, none⟩) 0 0) undef undef (.slice (some ⟨g25, 0, none⟩) 0 0) undef undef) W) := by
   intro W n0 n1 avi cvi avh cvh avs cvs g8 ad2 cd2 g12 g25 hB hM hn0 hn1 hD
   rw [HGE.out]
   unfold act5
   refine wpAnyZ_ready (rs := [10, 25]) (by kernel_rfl) (by simp) ?_
   refine AllReadyZ.cons (i := 10) rfl (fun K hKK => ?_) (AllReadyZ.cons (i := 25) rfl (fun K hKK => ?_) AllReadyZ.nil)
   ·refine fresh_zero rfl (.tmp 12) (.tmp 14) 33 rfl 122 Tryz.underlying33 infoM9 _ rfl rfl ?_
    refine hKK.out _ _ (s5_of (HP0.out.below hB)) (fun hHeld => ?_)
    try simp only [Act.put, List.setIfInBounds_toArray]
    try simp only [List.set_cons_succ]
    try simp only [List.set_cons_zero]
    refine wpAnyZ_listed (l' := (bits5 7864319)) (by kernel_rfl) ?_
    rw [← HGE.out]
    exact st31110.out W n0 n1 avi cvi avh cvh avs cvs g8 ad2 cd2 g12 g25 hB hM hn0 hn1 hD
   ·obtain ⟨Kb, V, HX, HV, hb, hk⟩ := lay_any W #[.int .i64 0, .int .i64 0, .slice none 0 0, .slice none 0 0, .slice none 0 0, .int .i64 0, .slice none 0 0, .slice none 0 0, .slice none 0 0, .int .i64 0, .int .i64 0, .bool false, .slice none 0 0, .slice none 0 0] 36
    go_simp
    rw [HV.out, ← HX.out]
    have hB' : Below W0.heap.size W0 V := hB.trans (hb.mono hB.size)
    refine hKK.out _ _ (s5_of (HP0.out.below hB')) (fun hHeld => ?_)
    try simp only [Act.put, List.setIfInBounds_toArray]
    try simp only [List.set_cons_succ]
    try simp only [List.set_cons_zero]
    refine wpAnyZ_listed (l' := (bits5 41417727)) (by kernel_rfl) ?_
    rw [← HGE.out]
    exact st21111.out V n0 n1 avi cvi avh cvh avs cvs g8 ad2 cd2 g12 g25 Kb hB' (hM.below hb) hn0 (Nat.le_trans hn1 hb.size) (owns_turns (S := fun _ => False) hD (Turns.of_below hb) (fun _ _ => id)) hk (HX.out ▸ hB.size) (.inr (HX.out ▸ hn1))
  have st31100 : Hid (∀ (W : World) (n0 n1 : Nat) (avi : Option Addr) (cvi : Nat) (avh : Option Addr) (cvh : Nat) (avs : Option Addr) (cvs : Nat) (g8 : Nat) (ad2 : Option Addr) (cd2 : Nat) (g12 : Nat), Below W0.heap.size W0 W → (MdF (fun j => n0 ≤ j ∧ j < n1) W (.agg #[.int .i64 m.n, .int .i64 m.s, .slice avi m.i.length cvi, .slice avh m.h.length cvh, .slice avs m.e.length cvs, .int .i64 m.z]) m) → (W0.heap.size ≤ n0 ∧ W0.heap.size ≤ n1) → n1 ≤ W.heap.size → W.ownsRow n1 3 1 (.slice ad2 d.length cd2) d.length (intCells d) → G 6 (bits5 6815743) (act5 m d ai ci ah ch ae ce ad cd ap cp N w.heap.size Rb undef (.agg #[.int .i64 m.n, .int .i64 m.s, .slice avi m.i.length cvi, .slice avh m.h.length cvh, .slice avs m.e.length cvs, .int .i64 m.z]) (.slice (some ⟨g8, 0, none⟩) 0 0) (.slice ad2 d.length cd2) (.slice (some ⟨g12, 0, none⟩) 0 0) (.slice (some ⟨g12, 0, none⟩) 0 0) undef undef undef undef) W) := by
   intro W n0 n1 avi cvi avh cvh avs cvs g8 ad2 cd2 g12 hB hM hn0 hn1 hD
   rw [HGE.out]
   unfold act5
   refine wpAnyZ_ready (rs := [19, 20, 25]) (by kernel_rfl) (by simp) ?_
   refine AllReadyZ.cons (i := 19) rfl (fun K hKK => ?_) (AllReadyZ.cons (i := 20) rfl (fun K hKK => ?_) (AllReadyZ.cons (i := 25) rfl (fun K hKK => ?_) AllReadyZ.nil))
   ·go_simp
    refine (l1own_src _ [] W (by simp) ⟨rfl, none, 0, rfl, .inl rfl⟩).mono ?_
    rintro e V ⟨y0, rfl, ho, hb⟩
    obtain ⟨asu, csu, rfl⟩ := owns_slice ho
    have hsu9 := owns_cap ho
    simp only [List.length_nil]
    try go_simp
    have hB' : Below W0.heap.size W0 V := hB.trans (hb.mono hB.size)
    refine hKK.out _ _ (s5_of (HP0.out.below hB')) (fun hHeld => ?_)
    try simp only [Act.put, List.setIfInBounds_toArray]
    try simp only [List.set_cons_succ]
    try simp only [List.set_cons_zero]
    refine wpAnyZ_listed (l' := (bits5 7340031)) (by kernel_rfl) ?_
    rw [← HGE.out]
    exact st41100.out V n0 n1 avi cvi avh cvh avs cvs g8 ad2 cd2 g12 asu csu hB' (hM.below hb) hn0 (Nat.le_trans hn1 hb.size) (owns_turns (S := fun _ => False) hD (Turns.of_below hb) (fun _ _ => id)) hsu9
   ·obtain ⟨g25, V, HX, HV, hb, hk⟩ := lay_any W #[] 126
    go_simp
    rw [HV.out, ← HX.out]
    have hB' : Below W0.heap.size W0 V := hB.trans (hb.mono hB.size)
    refine hKK.out _ _ (s5_of (HP0.out.below hB')) (fun hHeld => ?_)
    try simp only [Act.put, List.setIfInBounds_toArray]
    try simp only [List.set_cons_succ]
    try simp only [List.set_cons_zero]
    refine wpAnyZ_listed (l' := (bits5 7864319)) (by kernel_rfl) ?_
    rw [← HGE.out]
    exact st31110.out V n0 n1 avi cvi avh cvh avs cvs g8 ad2 cd2 g12 g25 hB' (hM.below hb) hn0 (Nat.le_trans hn1 hb.size) (owns_turns (S := fun _ => False) hD (Turns.of_below hb) (fun _ _ => id))
   ·obtain ⟨Kb, V, HX, HV, hb, hk⟩ := lay_any W #[.int .i64 0, .int .i64 0, .slice none 0 0, .slice none 0 0, .slice none 0 0, .int .i64 0, .slice none 0 0, .slice none 0 0, .slice none 0 0, .int .i64 0, .int .i64 0, .bool false, .slice none 0 0, .slice none 0 0] 36
    go_simp
    rw [HV.out, ← HX.out]
    have hB' : Below W0.heap.size W0 V := hB.trans (hb.mono hB.size)
    refine hKK.out _ _ (s5_of (HP0.out.below hB')) (fun hHeld => ?_)
    try simp only [Act.put, List.setIfInBounds_toArray]
    try simp only [List.set_cons_succ]
    try simp only [List.set_cons_zero]
    refine wpAnyZ_listed (l' := (bits5 40370175)) (by kernel_rfl) ?_
    rw [← HGE.out]
    exact st31101.out V n0 n1 avi cvi avh cvh avs cvs g8 ad2 cd2 g12 Kb hB' (hM.below hb) hn0 (Nat.le_trans hn1 hb.size) (owns_turns (S := fun _ => False) hD (Turns.of_below hb) (fun _ _ => id)) hk (HX.out ▸ hB.size) (.inr (HX.out ▸ hn1))
  have st01111 : Hid (∀ (W : World) (g8 : Nat) (g12 : Nat) (g25 : Nat) (Kb : Nat), Below W0.heap.size W0 W → Bk W Kb 36 #[.int .i64 0, .int .i64 0, .slice none 0 0, .slice none 0 0, .slice none 0 0, .int .i64 0, .slice none 0 0, .slice none 0 0, .slice none 0 0, .int .i64 0, .int .i64 0, .bool false, .slice none 0 0, .slice none 0 0] → W0.heap.size ≤ Kb → G 7 (bits5 41417659) (act5 m d ai ci ah ch ae ce ad cd ap cp N w.heap.size Rb (.pointer (some ⟨Kb, 0, none⟩)) undef (.slice (some ⟨g8, 0, none⟩) 0 0) undef (.slice (some ⟨g12, 0, none⟩) 0 0) undef undef (.slice (some ⟨g25, 0, none⟩) 0 0) undef undef) W) := by
   intro W g8 g12 g25 Kb hB hY hKw
   rw [HGE.out]
   unfold act5
   refine wpAnyZ_ready (rs := [2]) (by kernel_rfl) (by simp) ?_
   refine AllReadyZ.cons (i := 2) rfl (fun K hKK => ?_) AllReadyZ.nil
   ·go_simp
    refine (ownM_any _ m W (by have h9 := HMS.out; omega) (by have h9 := HMS.out; omega) (by have h9 := HMS.out; omega) (fun j hj => Nat.le_trans (HML.out j) (by omega)) (HM.out.below (HB0.out.trans (hB.mono HB0.out.size)))).mono ?_
    rintro e V ⟨y0, rfl, hb, hmd⟩
    obtain ⟨avi, cvi, avh, cvh, avs, cvs, rfl⟩ := hmd.form
    obtain ⟨n0, hn0e⟩ : ∃ n, n = W.heap.size := ⟨_, rfl⟩
    obtain ⟨n1, hn1e⟩ : ∃ n, n = V.heap.size := ⟨_, rfl⟩
    rw [← hn0e, ← hn1e] at hmd
    have hn0 : W0.heap.size ≤ n0 ∧ W0.heap.size ≤ n1 := ⟨hn0e ▸ hB.size, hn1e ▸ Nat.le_trans hB.size hb.size⟩
    have hn1 : n1 ≤ V.heap.size := by omega
    have hKM' : Kb < n0 ∨ n1 ≤ Kb := .inl (hn0e ▸ hY.lt)
    try go_simp
    have hB' : Below W0.heap.size W0 V := hB.trans (hb.mono hB.size)
    refine hKK.out _ _ (s5_of (HP0.out.below hB')) (fun hHeld => ?_)
    try simp only [Act.put, List.setIfInBounds_toArray]
    try simp only [List.set_cons_succ]
    try simp only [List.set_cons_zero]
    refine wpAnyZ_listed (l' := (bits5 41417663)) (by kernel_rfl) ?_
    rw [← HGE.out]
    exact st11111.out V n0 n1 avi cvi avh cvh avs cvs g8 g12 g25 Kb hB' hmd hn0 hn1 (hY.below hb) hKw hKM'
  have st10111 : Hid (∀ (W : World) (n0 n1 : Nat) (avi : Option Addr) (cvi : Nat) (avh : Option Addr) (cvh : Nat) (avs : Option Addr) (cvs : Nat) (g12 : Nat) (g25 : Nat) (Kb : Nat), Below W0.heap.size W0 W → (MdF (fun j => n0 ≤ j ∧ j < n1) W (.agg #[.int .i64 m.n, .int .i64 m.s, .slice avi m.i.length cvi, .slice avh m.h.length cvh, .slice avs m.e.length cvs, .int .i64 m.z]) m) → (W0.heap.size ≤ n0 ∧ W0.heap.size ≤ n1) → n1 ≤ W.heap.size → Bk W Kb 36 #[.int .i64 0, .int .i64 0, .slice none 0 0, .slice none 0 0, .slice none 0 0, .int .i64 0, .slice none 0 0, .slice none 0 0, .slice none 0 0, .int .i64 0, .int .i64 0, .bool false, .slice none 0 0, .slice none 0 0] → W0.heap.size ≤ Kb → (Kb < n0 ∨ n1 ≤ Kb) → G 7 (bits5 41417655) (act5 m d ai ci ah ch ae ce ad cd ap cp N w.heap.size Rb (.pointer (some ⟨Kb, 0, none⟩)) (.agg #[.int .i64 m.n, .int .i64 m.s, .slice avi m.i.length cvi, .slice avh m.h.length cvh, .slice avs m.e.length cvs, .int .i64 m.z]) undef undef (.slice (some ⟨g12, 0, none⟩) 0 0) undef undef (.slice (some ⟨g25, 0, none⟩) 0 0) undef undef) W) := by
   intro W n0 n1 avi cvi avh cvh avs cvs g12 g25 Kb hB hM hn0 hn1 hY hKw hKM
   rw [HGE.out]
   unfold act5
   refine wpAnyZ_ready (rs := [3]) (by kernel_rfl) (by simp) ?_
   refine AllReadyZ.cons (i := 3) rfl (fun K hKK => ?_) AllReadyZ.nil
   ·obtain ⟨g8, V, HX, HV, hb, hk⟩ := lay_any W #[] 3
    go_simp
    rw [HV.out, ← HX.out]
    have hB' : Below W0.heap.size W0 V := hB.trans (hb.mono hB.size)
    refine hKK.out _ _ (s5_of (HP0.out.below hB')) (fun hHeld => ?_)
    try simp only [Act.put, List.setIfInBounds_toArray]
    try simp only [List.set_cons_succ]
    try simp only [List.set_cons_zero]
    refine wpAnyZ_listed (l' := (bits5 41417663)) (by kernel_rfl) ?_
    rw [← HGE.out]
    exact st11111.out V n0 n1 avi cvi avh cvh avs cvs g8 g12 g25 Kb hB' (hM.below hb) hn0 (Nat.le_trans hn1 hb.size) (hY.below hb) hKw hKM
  have st11011 : Hid (∀ (W : World) (n0 n1 : Nat) (avi : Option Addr) (cvi : Nat) (avh : Option Addr) (cvh : Nat) (avs : Option Addr) (cvs : Nat) (g8 : Nat) (g25 : Nat) (Kb : Nat), Below W0.heap.size W0 W → (MdF (fun j => n0 ≤ j ∧ j < n1) W (.agg #[.int .i64 m.n, .int .i64 m.s, .slice avi m.i.length cvi, .slice avh m.h.length cvh, .slice avs m.e.length cvs, .int .i64 m.z]) m) → (W0.heap.size ≤ n0 ∧ W0.heap.size ≤ n1) → n1 ≤ W.heap.size → Bk W Kb 36 #[.int .i64 0, .int .i64 0, .slice none 0 0, .slice none 0 0, .slice none 0 0, .int .i64 0, .slice none 0 0, .slice none 0 0, .slice none 0 0, .int .i64 0, .int .i64 0, .bool false, .slice none 0 0, .slice none 0 0] → W0.heap.size ≤ Kb → (Kb < n0 ∨ n1 ≤ Kb) → G 7 (bits5 41417535) (act5 m d ai ci ah ch ae ce ad cd ap cp N w.heap.size Rb (.pointer (some ⟨Kb, 0, none⟩)) (.agg #[.int .i64 m.n, .int .i64 m.s, .slice avi m.i.length cvi, .slice avh m.h.length cvh, .slice avs m.e.length cvs, .int .i64 m.z]) (.slice (some ⟨g8, 0, none⟩) 0 0) undef undef undef undef (.slice (some ⟨g25, 0, none⟩) 0 0) undef undef) W) := by
   intro W n0 n1 avi cvi avh cvh avs cvs g8 g25 Kb hB hM hn0 hn1 hY hKw hKM
   rw [HGE.out]
   unfold act5
   refine wpAnyZ_ready (rs := [6, 7]) (by kernel_rfl) (by simp) ?_
   refine AllReadyZ.cons (i := 6) rfl (fun K hKK => ?_) (AllReadyZ.cons (i := 7) rfl (fun K hKK => ?_) AllReadyZ.nil)
   ·obtain ⟨i0, hi0, hz0, hz1, hz2⟩ := info_parts info3
    refine fresh_pos rfl (.tmp 8) (.tmp 10) 22 rfl 3 i0 (.int .i64 0) 1 8 Tryz.underlying22 hi0 hz0 hz1 hz2 rfl (by decide) g8 rfl (.slice ad d.length cd) d.length (intCells d) rfl (HSD.out W (HB0.out.trans (hB.mono HB0.out.size))) HDL.out (by unfold maxLen; have h9 := HD4.out; omega) (by have h9 := HD4.out; omega) ?_
    intro v' V ho hb
    obtain ⟨ad2, cd2, rfl⟩ := owns_slice ho
    have hD' : V.ownsRow n1 3 1 (.slice ad2 d.length cd2) d.length (intCells d) := owns_mono ho hn1
    have hB' : Below W0.heap.size W0 V := hB.trans (hb.mono hB.size)
    refine hKK.out _ _ (s5_of (HP0.out.below hB')) (fun hHeld => ?_)
    try simp only [Act.put, List.setIfInBounds_toArray]
    try simp only [List.set_cons_succ]
    try simp only [List.set_cons_zero]
    refine wpAnyZ_listed (l' := (bits5 41417599)) (by kernel_rfl) ?_
    rw [← HGE.out]
    exact st21011.out V n0 n1 avi cvi avh cvh avs cvs g8 ad2 cd2 g25 Kb hB' (hM.below hb) hn0 (Nat.le_trans hn1 hb.size) hD' (hY.below hb) hKw hKM
   ·obtain ⟨g12, V, HX, HV, hb, hk⟩ := lay_any W #[] 122
    go_simp
    rw [HV.out, ← HX.out]
    have hB' : Below W0.heap.size W0 V := hB.trans (hb.mono hB.size)
    refine hKK.out _ _ (s5_of (HP0.out.below hB')) (fun hHeld => ?_)
    try simp only [Act.put, List.setIfInBounds_toArray]
    try simp only [List.set_cons_succ]
    try simp only [List.set_cons_zero]
    refine wpAnyZ_listed (l' := (bits5 41417663)) (by kernel_rfl) ?_
    rw [← HGE.out]
    exact st11111.out V n0 n1 avi cvi avh cvh avs cvs g8 g12 g25 Kb hB' (hM.below hb) hn0 (Nat.le_trans hn1 hb.size) (hY.below hb) hKw hKM
  have st11101 : Hid (∀ (W : World) (n0 n1 : Nat) (avi : Option Addr) (cvi : Nat) (avh : Option Addr) (cvh : Nat) (avs : Option Addr) (cvs : Nat) (g8 : Nat) (g12 : Nat) (Kb : Nat), Below W0.heap.size W0 W → (MdF (fun j => n0 ≤ j ∧ j < n1) W (.agg #[.int .i64 m.n, .int .i64 m.s, .slice avi m.i.length cvi, .slice avh m.h.length cvh, .slice avs m.e.length cvs, .int .i64 m.z]) m) → (W0.heap.size ≤ n0 ∧ W0.heap.size ≤ n1) → n1 ≤ W.heap.size → Bk W Kb 36 #[.int .i64 0, .int .i64 0, .slice none 0 0, .slice none 0 0, .slice none 0 0, .int .i64 0, .slice none 0 0, .slice none 0 0, .slice none 0 0, .int .i64 0, .int .i64 0, .bool false, .slice none 0 0, .slice none 0 0] → W0.heap.size ≤ Kb → (Kb < n0 ∨ n1 ≤ Kb) → G 7 (bits5 40369087) (act5 m d ai ci ah ch ae ce ad cd ap cp N w.heap.size Rb (.pointer (some ⟨Kb, 0, none⟩)) (.agg #[.int .i64 m.n, .int .i64 m.s, .slice avi m.i.length cvi, .slice avh m.h.length cvh, .slice avs m.e.length cvs, .int .i64 m.z]) (.slice (some ⟨g8, 0, none⟩) 0 0) undef (.slice (some ⟨g12, 0, none⟩) 0 0) undef undef undef undef undef) W) := by
   intro W n0 n1 avi cvi avh cvh avs cvs g8 g12 Kb hB hM hn0 hn1 hY hKw hKM
   rw [HGE.out]
   unfold act5
   refine wpAnyZ_ready (rs := [6, 20]) (by kernel_rfl) (by simp) ?_
   refine AllReadyZ.cons (i := 6) rfl (fun K hKK => ?_) (AllReadyZ.cons (i := 20) rfl (fun K hKK => ?_) AllReadyZ.nil)
   ·obtain ⟨i0, hi0, hz0, hz1, hz2⟩ := info_parts info3
    refine fresh_pos rfl (.tmp 8) (.tmp 10) 22 rfl 3 i0 (.int .i64 0) 1 8 Tryz.underlying22 hi0 hz0 hz1 hz2 rfl (by decide) g8 rfl (.slice ad d.length cd) d.length (intCells d) rfl (HSD.out W (HB0.out.trans (hB.mono HB0.out.size))) HDL.out (by unfold maxLen; have h9 := HD4.out; omega) (by have h9 := HD4.out; omega) ?_
    intro v' V ho hb
    obtain ⟨ad2, cd2, rfl⟩ := owns_slice ho
    have hD' : V.ownsRow n1 3 1 (.slice ad2 d.length cd2) d.length (intCells d) := owns_mono ho hn1
    have hB' : Below W0.heap.size W0 V := hB.trans (hb.mono hB.size)
    refine hKK.out _ _ (s5_of (HP0.out.below hB')) (fun hHeld => ?_)
    try simp only [Act.put, List.setIfInBounds_toArray]
    try simp only [List.set_cons_succ]
    try simp only [List.set_cons_zero]
    refine wpAnyZ_listed (l' := (bits5 40369151)) (by kernel_rfl) ?_
    rw [← HGE.out]
    exact st21101.out V n0 n1 avi cvi avh cvh avs cvs g8 ad2 cd2 g12 Kb hB' (hM.below hb) hn0 (Nat.le_trans hn1 hb.size) hD' (hY.below hb) hKw hKM
   ·obtain ⟨g25, V, HX, HV, hb, hk⟩ := lay_any W #[] 126
    go_simp
    rw [HV.out, ← HX.out]
    have hB' : Below W0.heap.size W0 V := hB.trans (hb.mono hB.size)
    refine hKK.out _ _ (s5_of (HP0.out.below hB')) (fun hHeld => ?_)
    try simp only [Act.put, List.setIfInBounds_toArray]
    try simp only [List.set_cons_succ]
    try simp only [List.set_cons_zero]
    refine wpAnyZ_listed (l' := (bits5 41417663)) (by kernel_rfl) ?_
    rw [← HGE.out]
    exact st11111.out V n0 n1 avi cvi avh cvh avs cvs g8 g12 g25 Kb hB' (hM.below hb) hn0 (Nat.le_trans hn1 hb.size) (hY.below hb) hKw hKM
  have st11110 : Hid (∀ (W : World) (n0 n1 : Nat) (avi : Option Addr) (cvi : Nat) (avh : Option Addr) (cvh : Nat) (avs : Option Addr) (cvs : Nat) (g8 : Nat) (g12 : Nat) (g25 : Nat), Below W0.heap.size W0 W → (MdF (fun j => n0 ≤ j ∧ j < n1) W (.agg #[.int .i64 m.n, .int .i64 m.s, .slice avi m.i.length cvi, .slice avh m.h.length cvh, .slice avs m.e.length cvs, .int .i64 m.z]) m) → (W0.heap.size ≤ n0 ∧ W0.heap.size ≤ n1) → n1 ≤ W.heap.size → G 7 (bits5 7863231) (act5 m d ai ci ah ch ae ce ad cd ap cp N w.heap.size Rb undef (.agg #[.int .i64 m.n, .int .i64 m.s, .slice avi m.i.length cvi, .slice avh m.h.length cvh, .slice avs m.e.length cvs, .int .i64 m.z]) (.slice (some ⟨g8, 0, none⟩) 0 0) undef (.slice (some ⟨g12, 0, none⟩) 0 0) undef undef (.slice (some ⟨g25, 0, none⟩) 0 0) undef undef) W) := by
   intro W n0 n1 avi cvi avh cvh avs cvs g8 g12 g25 hB hM hn0 hn1
   rw [HGE.out]
   unfold act5
   refine wpAnyZ_ready (rs := [6, 25]) (by kernel_rfl) (by simp) ?_
   refine AllReadyZ.cons (i := 6) rfl (fun K hKK => ?_) (AllReadyZ.cons (i := 25) rfl (fun K hKK => ?_) AllReadyZ.nil)
   ·obtain ⟨i0, hi0, hz0, hz1, hz2⟩ := info_parts info3
    refine fresh_pos rfl (.tmp 8) (.tmp 10) 22 rfl 3 i0 (.int .i64 0) 1 8 Tryz.underlying22 hi0 hz0 hz1 hz2 rfl (by decide) g8 rfl (.slice ad d.length cd) d.length (intCells d) rfl (HSD.out W (HB0.out.trans (hB.mono HB0.out.size))) HDL.out (by unfold maxLen; have h9 := HD4.out; omega) (by have h9 := HD4.out; omega) ?_
    intro v' V ho hb
    obtain ⟨ad2, cd2, rfl⟩ := owns_slice ho
    have hD' : V.ownsRow n1 3 1 (.slice ad2 d.length cd2) d.length (intCells d) := owns_mono ho hn1
    have hB' : Below W0.heap.size W0 V := hB.trans (hb.mono hB.size)
    refine hKK.out _ _ (s5_of (HP0.out.below hB')) (fun hHeld => ?_)
    try simp only [Act.put, List.setIfInBounds_toArray]
    try simp only [List.set_cons_succ]
    try simp only [List.set_cons_zero]
    refine wpAnyZ_listed (l' := (bits5 7863295)) (by kernel_rfl) ?_
    rw [← HGE.out]
    exact st21110.out V n0 n1 avi cvi avh cvh avs cvs g8 ad2 cd2 g12 g25 hB' (hM.below hb) hn0 (Nat.le_trans hn1 hb.size) hD'
   ·obtain ⟨Kb, V, HX, HV, hb, hk⟩ := lay_any W #[.int .i64 0, .int .i64 0, .slice none 0 0, .slice none 0 0, .slice none 0 0, .int .i64 0, .slice none 0 0, .slice none 0 0, .slice none 0 0, .int .i64 0, .int .i64 0, .bool false, .slice none 0 0, .slice none 0 0] 36
    go_simp
    rw [HV.out, ← HX.out]
    have hB' : Below W0.heap.size W0 V := hB.trans (hb.mono hB.size)
    refine hKK.out _ _ (s5_of (HP0.out.below hB')) (fun hHeld => ?_)
    try simp only [Act.put, List.setIfInBounds_toArray]
    try simp only [List.set_cons_succ]
    try simp only [List.set_cons_zero]
    refine wpAnyZ_listed (l' := (bits5 41417663)) (by kernel_rfl) ?_
    rw [← HGE.out]
    exact st11111.out V n0 n1 avi cvi avh cvh avs cvs g8 g12 g25 Kb hB' (hM.below hb) hn0 (Nat.le_trans hn1 hb.size) hk (HX.out ▸ hB.size) (.inr (HX.out ▸ hn1))
  have st21001 : Hid (∀ (W : World) (n0 n1 : Nat) (avi : Option Addr) (cvi : Nat) (avh : Option Addr) (cvh : Nat) (avs : Option Addr) (cvs : Nat) (g8 : Nat) (ad2 : Option Addr) (cd2 : Nat) (Kb : Nat), Below W0.heap.size W0 W → (MdF (fun j => n0 ≤ j ∧ j < n1) W (.agg #[.int .i64 m.n, .int .i64 m.s, .slice avi m.i.length cvi, .slice avh m.h.length cvh, .slice avs m.e.length cvs, .int .i64 m.z]) m) → (W0.heap.size ≤ n0 ∧ W0.heap.size ≤ n1) → n1 ≤ W.heap.size → W.ownsRow n1 3 1 (.slice ad2 d.length cd2) d.length (intCells d) → Bk W Kb 36 #[.int .i64 0, .int .i64 0, .slice none 0 0, .slice none 0 0, .slice none 0 0, .int .i64 0, .slice none 0 0, .slice none 0 0, .slice none 0 0, .int .i64 0, .int .i64 0, .bool false, .slice none 0 0, .slice none 0 0] → W0.heap.size ≤ Kb → (Kb < n0 ∨ n1 ≤ Kb) → G 7 (bits5 40369023) (act5 m d ai ci ah ch ae ce ad cd ap cp N w.heap.size Rb (.pointer (some ⟨Kb, 0, none⟩)) (.agg #[.int .i64 m.n, .int .i64 m.s, .slice avi m.i.length cvi, .slice avh m.h.length cvh, .slice avs m.e.length cvs, .int .i64 m.z]) (.slice (some ⟨g8, 0, none⟩) 0 0) (.slice ad2 d.length cd2) undef undef undef undef undef undef) W) := by
   intro W n0 n1 avi cvi avh cvh avs cvs g8 ad2 cd2 Kb hB hM hn0 hn1 hD hY hKw hKM
   rw [HGE.out]
   unfold act5
   refine wpAnyZ_ready (rs := [7, 20]) (by kernel_rfl) (by simp) ?_
   refine AllReadyZ.cons (i := 7) rfl (fun K hKK => ?_) (AllReadyZ.cons (i := 20) rfl (fun K hKK => ?_) AllReadyZ.nil)
   ·obtain ⟨g12, V, HX, HV, hb, hk⟩ := lay_any W #[] 122
    go_simp
    rw [HV.out, ← HX.out]
    have hB' : Below W0.heap.size W0 V := hB.trans (hb.mono hB.size)
    refine hKK.out _ _ (s5_of (HP0.out.below hB')) (fun hHeld => ?_)
    try simp only [Act.put, List.setIfInBounds_toArray]
    try simp only [List.set_cons_succ]
    try simp only [List.set_cons_zero]
    refine wpAnyZ_listed (l' := (bits5 40369151)) (by kernel_rfl) ?_
    rw [← HGE.out]
    exact st21101.out V n0 n1 avi cvi avh cvh avs cvs g8 ad2 cd2 g12 Kb hB' (hM.below hb) hn0 (Nat.le_trans hn1 hb.size) (owns_turns (S := fun _ => False) hD (Turns.of_below hb) (fun _ _ => id)) (hY.below hb) hKw hKM
   ·obtain ⟨g25, V, HX, HV, hb, hk⟩ := lay_any W #[] 126
    go_simp
    rw [HV.out, ← HX.out]
    have hB' : Below W0.heap.size W0 V := hB.trans (hb.mono hB.size)
    refine hKK.out _ _ (s5_of (HP0.out.below hB')) (fun hHeld => ?_)
    try simp only [Act.put, List.setIfInBounds_toArray]
    try simp only [List.set_cons_succ]
    try simp only [List.set_cons_zero]
    refine wpAnyZ_listed (l' := (bits5 41417599)) (by kernel_rfl) ?_
    rw [← HGE.out]
    exact st21011.out V n0 n1 avi cvi avh cvh avs cvs g8 ad2 cd2 g25 Kb hB' (hM.below hb) hn0 (Nat.le_trans hn1 hb.size) (owns_turns (S := fun _ => False) hD (Turns.of_below hb) (fun _ _ => id)) (hY.below hb) hKw hKM
  have st21010 : Hid (∀ (W : World) (n0 n1 : Nat) (avi : Option Addr) (cvi : Nat) (avh : Option Addr) (cvh : Nat) (avs : Option Addr) (cvs : Nat) (g8 : Nat) (ad2 : Option Addr) (cd2 : Nat) (g25 : Nat), Below W0.heap.size W0 W → (MdF (fun j => n0 ≤ j ∧ j < n1) W (.agg #[.int .i64 m.n, .int .i64 m.s, .slice avi m.i.length cvi, .slice avh m.h.length cvh, .slice avs m.e.length cvs, .int .i64 m.z]) m) → (W0.heap.size ≤ n0 ∧ W0.heap.size ≤ n1) → n1 ≤ W.heap.size → W.ownsRow n1 3 1 (.slice ad2 d.length cd2) d.length (intCells d) → G 7 (bits5 7863167) (act5 m d ai ci ah ch ae ce ad cd ap cp N w.heap.size Rb undef (.agg #[.int .i64 m.n, .int .i64 m.s, .slice avi m.i.length cvi, .slice avh m.h.length cvh, .slice avs m.e.length cvs, .int .i64 m.z]) (.slice (some ⟨g8, 0, none⟩) 0 0) (.slice ad2 d.length cd2) undef undef undef (.slice (some ⟨g25, 0, none⟩) 0 0) undef undef) W) := by
   intro W n0 n1 avi cvi avh cvh avs cvs g8 ad2 cd2 g25 hB hM hn0 hn1 hD
   rw [HGE.out]
   unfold act5
   refine wpAnyZ_ready (rs := [7, 25]) (by kernel_rfl) (by simp) ?_
   refine AllReadyZ.cons (i := 7) rfl (fun K hKK => ?_) (AllReadyZ.cons (i := 25) rfl (fun K hKK => ?_) AllReadyZ.nil)
   ·obtain ⟨g12, V, HX, HV, hb, hk⟩ := lay_any W #[] 122
    go_simp
    rw [HV.out, ← HX.out]
    have hB' : Below W0.heap.size W0 V := hB.trans (hb.mono hB.size)
    refine hKK.out _ _ (s5_of (HP0.out.below hB')) (fun hHeld => ?_)
    try simp only [Act.put, List.setIfInBounds_toArray]
    try simp only [List.set_cons_succ]
    try simp only [List.set_cons_zero]
    refine wpAnyZ_listed (l' := (bits5 7863295)) (by kernel_rfl) ?_
    rw [← HGE.out]
    exact st21110.out V n0 n1 avi cvi avh cvh avs cvs g8 ad2 cd2 g12 g25 hB' (hM.below hb) hn0 (Nat.le_trans hn1 hb.size) (owns_turns (S := fun _ => False) hD (Turns.of_below hb) (fun _ _ => id))
   ·obtain ⟨Kb, V, HX, HV, hb, hk⟩ := lay_any W #[.int .i64 0, .int .i64 0, .slice none 0 0, .slice none 0 0, .slice none 0 0, .int .i64 0, .slice none 0 0, .slice none 0 0, .slice none 0 0, .int .i64 0, .int .i64 0, .bool false, .slice none 0 0, .slice none 0 0] 36
    go_simp
    rw [HV.out, ← HX.out]
    have hB' : Below W0.heap.size W0 V := hB.trans (hb.mono hB.size)
    refine hKK.out _ _ (s5_of (HP0.out.below hB')) (fun hHeld => ?_)
    try simp only [Act.put, List.setIfInBounds_toArray]
    try simp only [List.set_cons_succ]
    try simp only [List.set_cons_zero]
    refine wpAnyZ_listed (l' := (bits5 41417599)) (by kernel_rfl) ?_
    rw [← HGE.out]
    exact st21011.out V n0 n1 avi cvi avh cvh avs cvs g8 ad2 cd2 g25 Kb hB' (hM.below hb) hn0 (Nat.le_trans hn1 hb.size) (owns_turns (S := fun _ => False) hD (Turns.of_below hb) (fun _ _ => id)) hk (HX.out ▸ hB.size) (.inr (HX.out ▸ hn1))
  have st21100 : Hid (∀ (W : World) (n0 n1 : Nat) (avi : Option Addr) (cvi : Nat) (avh : Option Addr) (cvh : Nat) (avs : Option Addr) (cvs : Nat) (g8 : Nat) (ad2 : Option Addr) (cd2 : Nat) (g12 : Nat), Below W0.heap.size W0 W → (MdF (fun j => n0 ≤ j ∧ j < n1) W (.agg #[.int .i64 m.n, .int .i64 m.s, .slice avi m.i.length cvi, .slice avh m.h.length cvh, .slice avs m.e.length cvs, .int .i64 m.z]) m) → (W0.heap.size ≤ n0 ∧ W0.heap.size ≤ n1) → n1 ≤ W.heap.size → W.ownsRow n1 3 1 (.slice ad2 d.length cd2) d.length (intCells d) → G 7 (bits5 6814719) (act5 m d ai ci ah ch ae ce ad cd ap cp N w.heap.size Rb undef (.agg #[.int .i64 m.n, .int .i64 m.s, .slice avi m.i.length cvi, .slice avh m.h.length cvh, .slice avs m.e.length cvs, .int .i64 m.z]) (.slice (some ⟨g8, 0, none⟩) 0 0) (.slice ad2 d.length cd2) (.slice (some ⟨g12, 0, none⟩) 0 0) undef undef undef undef undef) W) := by
   intro W n0 n1 avi cvi avh cvh avs cvs g8 ad2 cd2 g12 hB hM hn0 hn1 hD
   rw [HGE.out]
   unfold act5
   refine wpAnyZ_ready (rs := [10, 20, 25]) (by kernel_rfl) (by simp) ?_
   refine AllReadyZ.cons (i := 10) rfl (fun K hKK => ?_) (AllReadyZ.cons (i := 20) rfl (fun K hKK => ?_) (AllReadyZ.cons (i := 25) rfl (fun K hKK => ?_) AllReadyZ.nil))
   ·refine fresh_zero rfl (.tmp 12) (.tmp 14) 33 rfl 122 Tryz.underlying33 infoM9 _ rfl rfl ?_
    refine hKK.out _ _ (s5_of (HP0.out.below hB)) (fun hHeld => ?_)
    try simp only [Act.put, List.setIfInBounds_toArray]
    try simp only [List.set_cons_succ]
    try simp only [List.set_cons_zero]
    refine wpAnyZ_listed (l' := (bits5 6815743)) (by kernel_rfl) ?_
    rw [← HGE.out]
    exact st31100.out W n0 n1 avi cvi avh cvh avs cvs g8 ad2 cd2 g12 hB hM hn0 hn1 hD
   ·obtain ⟨g25, V, HX, HV, hb, hk⟩ := lay_any W #[] 126
    go_simp
    rw [HV.out, ← HX.out]
    have hB' : Below W0.heap.size W0 V := hB.trans (hb.mono hB.size)
    refine hKK.out _ _ (s5_of (HP0.out.below hB')) (fun hHeld => ?_)
    try simp only [Act.put, List.setIfInBounds_toArray]
    try simp only [List.set_cons_succ]
    try simp only [List.set_cons_zero]
    refine wpAnyZ_listed (l' := (bits5 7863295)) (by kernel_rfl) ?_
    rw [← HGE.out]
    exact st21110.out V n0 n1 avi cvi avh cvh avs cvs g8 ad2 cd2 g12 g25 hB' (hM.below hb) hn0 (Nat.le_trans hn1 hb.size) (owns_turns (S := fun _ => False) hD (Turns.of_below hb) (fun _ _ => id))
   ·obtain ⟨Kb, V, HX, HV, hb, hk⟩ := lay_any W #[.int .i64 0, .int .i64 0, .slice none 0 0, .slice none 0 0, .slice none 0 0, .int .i64 0, .slice none 0 0, .slice none 0 0, .slice none 0 0, .int .i64 0, .int .i64 0, .bool false, .slice none 0 0, .slice none 0 0] 36
    go_simp
    rw [HV.out, ← HX.out]
    have hB' : Below W0.heap.size W0 V := hB.trans (hb.mono hB.size)
    refine hKK.out _ _ (s5_of (HP0.out.below hB')) (fun hHeld => ?_)
    try simp only [Act.put, List.setIfInBounds_toArray]
    try simp only [List.set_cons_succ]
    try simp only [List.set_cons_zero]
    refine wpAnyZ_listed (l' := (bits5 40369151)) (by kernel_rfl) ?_
    rw [← HGE.out]
    exact st21101.out V n0 n1 avi cvi avh cvh avs cvs g8 ad2 cd2 g12 Kb hB' (hM.below hb) hn0 (Nat.le_trans hn1 hb.size) (owns_turns (S := fun _ => False) hD (Turns.of_below hb) (fun _ _ => id)) hk (HX.out ▸ hB.size) (.inr (HX.out ▸ hn1))
  have st00111 : Hid (∀ (W : World) (g12 : Nat) (g25 : Nat) (Kb : Nat), Below W0.heap.size W0 W → Bk W Kb 36 #[.int .i64 0, .int .i64 0, .slice none 0 0, .slice none 0 0, .slice none 0 0, .int .i64 0, .slice none 0 0, .slice none 0 0, .slice none 0 0, .int .i64 0, .int .i64 0, .bool false, .slice none 0 0, .slice none 0 0] → W0.heap.size ≤ Kb → G 8 (bits5 41417651) (act5 m d ai ci ah ch ae ce ad cd ap cp N w.heap.size Rb (.pointer (some ⟨Kb, 0, none⟩)) undef undef undef (.slice (some ⟨g12, 0, none⟩) 0 0) undef undef (.slice (some ⟨g25, 0, none⟩) 0 0) undef undef) W) := by
   intro W g12 g25 Kb hB hY hKw
   rw [HGE.out]
   unfold act5
   refine wpAnyZ_ready (rs := [2, 3]) (by kernel_rfl) (by simp) ?_
   refine AllReadyZ.cons (i := 2) rfl (fun K hKK => ?_) (AllReadyZ.cons (i := 3) rfl (fun K hKK => ?_) AllReadyZ.nil)
   ·go_simp
    refine (ownM_any _ m W (by have h9 := HMS.out; omega) (by have h9 := HMS.out; omega) (by have h9 := HMS.out; omega) (fun j hj => Nat.le_trans (HML.out j) (by omega)) (HM.out.below (HB0.out.trans (hB.mono HB0.out.size)))).mono ?_
    rintro e V ⟨y0, rfl, hb, hmd⟩
    obtain ⟨avi, cvi, avh, cvh, avs, cvs, rfl⟩ := hmd.form
    obtain ⟨n0, hn0e⟩ : ∃ n, n = W.heap.size := ⟨_, rfl⟩
    obtain ⟨n1, hn1e⟩ : ∃ n, n = V.heap.size := ⟨_, rfl⟩
    rw [← hn0e, ← hn1e] at hmd
    have hn0 : W0.heap.size ≤ n0 ∧ W0.heap.size ≤ n1 := ⟨hn0e ▸ hB.size, hn1e ▸ Nat.le_trans hB.size hb.size⟩
    have hn1 : n1 ≤ V.heap.size := by omega
    have hKM' : Kb < n0 ∨ n1 ≤ Kb := .inl (hn0e ▸ hY.lt)
    try go_simp
    have hB' : Below W0.heap.size W0 V := hB.trans (hb.mono hB.size)
    refine hKK.out _ _ (s5_of (HP0.out.below hB')) (fun hHeld => ?_)
    try simp only [Act.put, List.setIfInBounds_toArray]
    try simp only [List.set_cons_succ]
    try simp only [List.set_cons_zero]
    refine wpAnyZ_listed (l' := (bits5 41417655)) (by kernel_rfl) ?_
    rw [← HGE.out]
    exact st10111.out V n0 n1 avi cvi avh cvh avs cvs g12 g25 Kb hB' hmd hn0 hn1 (hY.below hb) hKw hKM'
   ·obtain ⟨g8, V, HX, HV, hb, hk⟩ := lay_any W #[] 3
    go_simp
    rw [HV.out, ← HX.out]
    have hB' : Below W0.heap.size W0 V := hB.trans (hb.mono hB.size)
    refine hKK.out _ _ (s5_of (HP0.out.below hB')) (fun hHeld => ?_)
    try simp only [Act.put, List.setIfInBounds_toArray]
    try simp only [List.set_cons_succ]
    try simp only [List.set_cons_zero]
    refine wpAnyZ_listed (l' := (bits5 41417659)) (by kernel_rfl) ?_
    rw [← HGE.out]
    exact st01111.out V g8 g12 g25 Kb hB' (hY.below hb) hKw
  have st01011 : Hid (∀ (W : World) (g8 : Nat) (g25 : Nat) (Kb : Nat), Below W0.heap.size W0 W → Bk W Kb 36 #[.int .i64 0, .int .i64 0, .slice none 0 0, .slice none 0 0, .slice none 0 0, .int .i64 0, .slice none 0 0, .slice none 0 0, .slice none 0 0, .int .i64 0, .int .i64 0, .bool false, .slice none 0 0, .slice none 0 0] → W0.heap.size ≤ Kb → G 8 (bits5 41417531) (act5 m d ai ci ah ch ae ce ad cd ap cp N w.heap.size Rb (.pointer (some ⟨Kb, 0, none⟩)) undef (.slice (some ⟨g8, 0, none⟩) 0 0) undef undef undef undef (.slice (some ⟨g25, 0, none⟩) 0 0) undef undef) W) := by
   intro W g8 g25 Kb hB hY hKw
   rw [HGE.out]
   unfold act5
   refine wpAnyZ_ready (rs := [2, 7]) (by kernel_rfl) (by simp) ?_
   refine AllReadyZ.cons (i := 2) rfl (fun K hKK => ?_) (AllReadyZ.cons (i := 7) rfl (fun K hKK => ?_) AllReadyZ.nil)
   ·go_simp
    refine (ownM_any _ m W (by have h9 := HMS.out; omega) (by have h9 := HMS.out; omega) (by have h9 := HMS.out; omega) (fun j hj => Nat.le_trans (HML.out j) (by omega)) (HM.out.below (HB0.out.trans (hB.mono HB0.out.size)))).mono ?_
    rintro e V ⟨y0, rfl, hb, hmd⟩
    obtain ⟨avi, cvi, avh, cvh, avs, cvs, rfl⟩ := hmd.form
    obtain ⟨n0, hn0e⟩ : ∃ n, n = W.heap.size := ⟨_, rfl⟩
    obtain ⟨n1, hn1e⟩ : ∃ n, n = V.heap.size := ⟨_, rfl⟩
    rw [← hn0e, ← hn1e] at hmd
    have hn0 : W0.heap.size ≤ n0 ∧ W0.heap.size ≤ n1 := ⟨hn0e ▸ hB.size, hn1e ▸ Nat.le_trans hB.size hb.size⟩
    have hn1 : n1 ≤ V.heap.size := by omega
    have hKM' : Kb < n0 ∨ n1 ≤ Kb := .inl (hn0e ▸ hY.lt)
    try go_simp
    have hB' : Below W0.heap.size W0 V := hB.trans (hb.mono hB.size)
    refine hKK.out _ _ (s5_of (HP0.out.below hB')) (fun hHeld => ?_)
    try simp only [Act.put, List.setIfInBounds_toArray]
    try simp only [List.set_cons_succ]
    try simp only [List.set_cons_zero]
    refine wpAnyZ_listed (l' := (bits5 41417535)) (by kernel_rfl) ?_
    rw [← HGE.out]
    exact st11011.out V n0 n1 avi cvi avh cvh avs cvs g8 g25 Kb hB' hmd hn0 hn1 (hY.below hb) hKw hKM'
   ·obtain ⟨g12, V, HX, HV, hb, hk⟩ := lay_any W #[] 122
    go_simp
    rw [HV.out, ← HX.out]
    have hB' : Below W0.heap.size W0 V := hB.trans (hb.mono hB.size)
    refine hKK.out _ _ (s5_of (HP0.out.below hB')) (fun hHeld => ?_)
    try simp only [Act.put, List.setIfInBounds_toArray]
    try simp only [List.set_cons_succ]
    try simp only [List.set_cons_zero]
    refine wpAnyZ_listed (l' := (bits5 41417659)) (by kernel_rfl) ?_
    rw [← HGE.out]
    exact st01111.out V g8 g12 g25 Kb hB' (hY.below hb) hKw
  have st01101 : Hid (∀ (W : World) (g8 : Nat) (g12 : Nat) (Kb : Nat), Below W0.heap.size W0 W → Bk W Kb 36 #[.int .i64 0, .int .i64 0, .slice none 0 0, .slice none 0 0, .slice none 0 0, .int .i64 0, .slice none 0 0, .slice none 0 0, .slice none 0 0, .int .i64 0, .int .i64 0, .bool false, .slice none 0 0, .slice none 0 0] → W0.heap.size ≤ Kb → G 8 (bits5 40369083) (act5 m d ai ci ah ch ae ce ad cd ap cp N w.heap.size Rb (.pointer (some ⟨Kb, 0, none⟩)) undef (.slice (some ⟨g8, 0, none⟩) 0 0) undef (.slice (some ⟨g12, 0, none⟩) 0 0) undef undef undef undef undef) W) := by
   intro W g8 g12 Kb hB hY hKw
   rw [HGE.out]
   unfold act5
   refine wpAnyZ_ready (rs := [2, 20]) (by kernel_rfl) (by simp) ?_
   refine AllReadyZ.cons (i := 2) rfl (fun K hKK => ?_) (AllReadyZ.cons (i := 20) rfl (fun K hKK => ?_) AllReadyZ.nil)
   ·go_simp
    refine (ownM_any _ m W (by have h9 := HMS.out; omega) (by have h9 := HMS.out; omega) (by have h9 := HMS.out; omega) (fun j hj => Nat.le_trans (HML.out j) (by omega)) (HM.out.below (HB0.out.trans (hB.mono HB0.out.size)))).mono ?_
    rintro e V ⟨y0, rfl, hb, hmd⟩
    obtain ⟨avi, cvi, avh, cvh, avs, cvs, rfl⟩ := hmd.form
    obtain ⟨n0, hn0e⟩ : ∃ n, n = W.heap.size := ⟨_, rfl⟩
    obtain ⟨n1, hn1e⟩ : ∃ n, n = V.heap.size := ⟨_, rfl⟩
    rw [← hn0e, ← hn1e] at hmd
    have hn0 : W0.heap.size ≤ n0 ∧ W0.heap.size ≤ n1 := ⟨hn0e ▸ hB.size, hn1e ▸ Nat.le_trans hB.size hb.size⟩
    have hn1 : n1 ≤ V.heap.size := by omega
    have hKM' : Kb < n0 ∨ n1 ≤ Kb := .inl (hn0e ▸ hY.lt)
    try go_simp
    have hB' : Below W0.heap.size W0 V := hB.trans (hb.mono hB.size)
    refine hKK.out _ _ (s5_of (HP0.out.below hB')) (fun hHeld => ?_)
    try simp only [Act.put, List.setIfInBounds_toArray]
    try simp only [List.set_cons_succ]
    try simp only [List.set_cons_zero]
    refine wpAnyZ_listed (l' := (bits5 40369087)) (by kernel_rfl) ?_
    rw [← HGE.out]
    exact st11101.out V n0 n1 avi cvi avh cvh avs cvs g8 g12 Kb hB' hmd hn0 hn1 (hY.below hb) hKw hKM'
   ·obtain ⟨g25, V, HX, HV, hb, hk⟩ := lay_any W #[] 126
    go_simp
    rw [HV.out, ← HX.out]
    have hB' : Below W0.heap.size W0 V := hB.trans (hb.mono hB.size)
    refine hKK.out _ _ (s5_of (HP0.out.below hB')) (fun hHeld => ?_)
    try simp only [Act.put, List.setIfInBounds_toArray]
    try simp only [List.set_cons_succ]
    try simp only [List.set_cons_zero]
    refine wpAnyZ_listed (l' := (bits5 41417659)) (by kernel_rfl) ?_
    rw [← HGE.out]
    exact st01111.out V g8 g12 g25 Kb hB' (hY.below hb) hKw
  have st01110 : Hid (∀ (W : World) (g8 : Nat) (g12 : Nat) (g25 : Nat), Below W0.heap.size W0 W → G 8 (bits5 7863227) (act5 m d ai ci ah ch ae ce ad cd ap cp N w.heap.size Rb undef undef (.slice (some ⟨g8, 0, none⟩) 0 0) undef (.slice (some ⟨g12, 0, none⟩) 0 0) undef undef (.slice (some ⟨g25, 0, none⟩) 0 0) undef undef) W) := by
   intro W g8 g12 g25 hB
   rw [HGE.out]
   unfold act5
   refine wpAnyZ_ready (rs := [2, 25]) (by kernel_rfl) (by simp) ?_
   refine AllReadyZ.cons (i := 2) rfl (fun K hKK => ?_) (AllReadyZ.cons (i := 25) rfl (fun K hKK => ?_) AllReadyZ.nil)
   ·go_simp
    refine (ownM_any _ m W (by have h9 := HMS.out; omega) (by have h9 := HMS.out; omega) (by have h9 := HMS.out; omega) (fun j hj => Nat.le_trans (HML.out j) (by omega)) (HM.out.below (HB0.out.trans (hB.mono HB0.out.size)))).mono ?_
    rintro e V ⟨y0, rfl, hb, hmd⟩
    obtain ⟨avi, cvi, avh, cvh, avs, cvs, rfl⟩ := hmd.form
    obtain ⟨n0, hn0e⟩ : ∃ n, n = W.heap.size := ⟨_, rfl⟩
    obtain ⟨n1, hn1e⟩ : ∃ n, n = V.heap.size := ⟨_, rfl⟩
    rw [← hn0e, ← hn1e] at hmd
    have hn0 : W0.heap.size ≤ n0 ∧ W0.heap.size ≤ n1 := ⟨hn0e ▸ hB.size, hn1e ▸ Nat.le_trans hB.size hb.size⟩
    have hn1 : n1 ≤ V.heap.size := by omega
    try go_simp
    have hB' : Below W0.heap.size W0 V := hB.trans (hb.mono hB.size)
    refine hKK.out _ _ (s5_of (HP0.out.below hB')) (fun hHeld => ?_)
    try simp only [Act.put, List.setIfInBounds_toArray]
    try simp only [List.set_cons_succ]
    try simp only [List.set_cons_zero]
    refine wpAnyZ_listed (l' := (bits5 7863231)) (by kernel_rfl) ?_
    rw [← HGE.out]
    exact st11110.out V n0 n1 avi cvi avh cvh avs cvs g8 g12 g25 hB' hmd hn0 hn1
   ·obtain ⟨Kb, V, HX, HV, hb, hk⟩ := lay_any W #[.int .i64 0, .int .i64 0, .slice none 0 0, .slice none 0 0, .slice none 0 0, .int .i64 0, .slice none 0 0, .slice none 0 0, .slice none 0 0, .int .i64 0, .int .i64 0, .bool false, .slice none 0 0, .slice none 0 0] 36
    go_simp
    rw [HV.out, ← HX.out]
    have hB' : Below W0.heap.size W0 V := hB.trans (hb.mono hB.size)
    refine hKK.out _ _ (s5_of (HP0.out.below hB')) (fun hHeld => ?_)
    try simp only [Act.put, List.setIfInBounds_toArray]
    try simp only [List.set_cons_succ]
    try simp only [List.set_cons_zero]
    refine wpAnyZ_listed (l' := (bits5 41417659)) (by kernel_rfl) ?_
    rw [← HGE.out]
    exact st01111.out V g8 g12 g25 Kb hB' hk (HX.out ▸ hB.size)
  have st10011 : Hid (∀ (W : World) (n0 n1 : Nat) (avi : Option Addr) (cvi : Nat) (avh : Option Addr) (cvh : Nat) (avs : Option Addr) (cvs : Nat) (g25 : Nat) (Kb : Nat), Below W0.heap.size W0 W → (MdF (fun j => n0 ≤ j ∧ j < n1) W (.agg #[.int .i64 m.n, .int .i64 m.s, .slice avi m.i.length cvi, .slice avh m.h.length cvh, .slice avs m.e.length cvs, .int .i64 m.z]) m) → (W0.heap.size ≤ n0 ∧ W0.heap.size ≤ n1) → n1 ≤ W.heap.size → Bk W Kb 36 #[.int .i64 0, .int .i64 0, .slice none 0 0, .slice none 0 0, .slice none 0 0, .int .i64 0, .slice none 0 0, .slice none 0 0, .slice none 0 0, .int .i64 0, .int .i64 0, .bool false, .slice none 0 0, .slice none 0 0] → W0.heap.size ≤ Kb → (Kb < n0 ∨ n1 ≤ Kb) → G 8 (bits5 41417527) (act5 m d ai ci ah ch ae ce ad cd ap cp N w.heap.size Rb (.pointer (some ⟨Kb, 0, none⟩)) (.agg #[.int .i64 m.n, .int .i64 m.s, .slice avi m.i.length cvi, .slice avh m.h.length cvh, .slice avs m.e.length cvs, .int .i64 m.z]) undef undef undef undef undef (.slice (some ⟨g25, 0, none⟩) 0 0) undef undef) W) := by
   intro W n0 n1 avi cvi avh cvh avs cvs g25 Kb hB hM hn0 hn1 hY hKw hKM
   rw [HGE.out]
   unfold act5
   refine wpAnyZ_ready (rs := [3, 7]) (by kernel_rfl) (by simp) ?_
   refine AllReadyZ.cons (i := 3) rfl (fun K hKK => ?_) (AllReadyZ.cons (i := 7) rfl (fun K hKK => ?_) AllReadyZ.nil)
   ·obtain ⟨g8, V, HX, HV, hb, hk⟩ := lay_any W #[] 3
    go_simp
    rw [HV.out, ← HX.out]
    have hB' : Below W0.heap.size W0 V := hB.trans (hb.mono hB.size)
    refine hKK.out _ _ (s5_of (HP0.out.below hB')) (fun hHeld => ?_)
    try simp only [Act.put, List.setIfInBounds_toArray]
    try simp only [List.set_cons_succ]
    try simp only [List.set_cons_zero]
    refine wpAnyZ_listed (l' := (bits5 41417535)) (by kernel_rfl) ?_
    rw [← HGE.out]
    exact st11011.out V n0 n1 avi cvi avh cvh avs cvs g8 g25 Kb hB' (hM.below hb) hn0 (Nat.le_trans hn1 hb.size) (hY.below hb) hKw hKM
   ·obtain ⟨g12, V, HX, HV, hb, hk⟩ := lay_any W #[] 122
    go_simp
    rw [HV.out, ← HX.out]
    have hB' : Below W0.heap.size W0 V := hB.trans (hb.mono hB.size)
    refine hKK.out _ _ (s5_of (HP0.out.below hB')) (fun hHeld => ?_)
    try simp only [Act.put, List.setIfInBounds_toArray]
    try simp only [List.set_cons_succ]
    try simp only [List.set_cons_zero]
    refine wpAnyZ_listed (l' := (bits5 41417655)) (by kernel_rfl) ?_
    rw [← HGE.out]
    exact st10111.out V n0 n1 avi cvi avh cvh avs cvs g12 g25 Kb hB' (hM.below hb) hn0 (Nat.le_trans hn1 hb.size) (hY.below hb) hKw hKM
  have st10101 : Hid (∀ (W : World) (n0 n1 : Nat) (avi : Option Addr) (cvi : Nat) (avh : Option Addr) (cvh : Nat) (avs : Option Addr) (cvs : Nat) (g12 : Nat) (Kb : Nat), Below W0.heap.size W0 W → (MdF (fun j => n0 ≤ j ∧ j < n1) W (.agg #[.int .i64 m.n, .int .i64 m.s, .slice avi m.i.length cvi, .slice avh m.h.length cvh, .slice avs m.e.length cvs, .int .i64 m.z]) m) → (W0.heap.size ≤ n0 ∧ W0.heap.size ≤ n1) → n1 ≤ W.heap.size → Bk W Kb 36 #[.int .i64 0, .int .i64 0, .slice none 0 0, .slice none 0 0, .slice none 0 0, .int .i64 0, .slice none 0 0, .slice none 0 0, .slice none 0 0, .int .i64 0, .int .i64 0, .bool false, .slice none 0 0, .slice none 0 0] → W0.heap.size ≤ Kb → (Kb < n0 ∨ n1 ≤ Kb) → G 8 (bits5 40369079) (act5 m d ai ci ah ch ae ce ad cd ap cp N w.heap.size Rb (.pointer (some ⟨Kb, 0, none⟩)) (.agg #[.int .i64 m.n, .int .i64 m.s, .slice avi m.i.length cvi, .slice avh m.h.length cvh, .slice avs m.e.length cvs, .int .i64 m.z]) undef undef (.slice (some ⟨g12, 0, none⟩) 0 0) undef undef undef undef undef) W) := by
   intro W n0 n1 avi cvi avh cvh avs cvs g12 Kb hB hM hn0 hn1 hY hKw hKM
   rw [HGE.out]
   unfold act5
   refine wpAnyZ_ready (rs := [3, 20]) (by kernel_rfl) (by simp) ?_
   refine AllReadyZ.cons (i := 3) rfl (fun K hKK => ?_) (AllReadyZ.cons (i := 20) rfl (fun K hKK => ?_) AllReadyZ.nil)
   ·obtain ⟨g8, V, HX, HV, hb, hk⟩ := lay_any W #[] 3
    go_simp
    rw [HV.out, ← HX.out]
    have hB' : Below W0.heap.size W0 V := hB.trans (hb.mono hB.size)
    refine hKK.out _ _ (s5_of (HP0.out.below hB')) (fun hHeld => ?_)
    try simp only [Act.put, List.setIfInBounds_toArray]
    try simp only [List.set_cons_succ]
    try simp only [List.set_cons_zero]
    refine wpAnyZ_listed (l' := (bits5 40369087)) (by kernel_rfl) ?_
    rw [← HGE.out]
    exact st11101.out V n0 n1 avi cvi avh cvh avs cvs g8 g12 Kb hB' (hM.below hb) hn0 (Nat.le_trans hn1 hb.size) (hY.below hb) hKw hKM
   ·obtain ⟨g25, V, HX, HV, hb, hk⟩ := lay_any W #[] 126
    go_simp
    rw [HV.out, ← HX.out]
    have hB' : Below W0.heap.size W0 V := hB.trans (hb.mono hB.size)
    refine hKK.out _ _ (s5_of (HP0.out.below hB')) (fun hHeld => ?_)
    try simp only [Act.put, List.setIfInBounds_toArray]
    try simp only [List.set_cons_succ]
    try simp only [List.set_cons_zero]
    refine wpAnyZ_listed (l' := (bits5 41417655)) (by kernel_rfl) ?_
    rw [← HGE.out]
    exact st10111.out V n0 n1 avi cvi avh cvh avs cvs g12 g25 Kb hB' (hM.below hb) hn0 (Nat.le_trans hn1 hb.size) (hY.below hb) hKw hKM
  have st10110 : Hid (∀ (W : World) (n0 n1 : Nat) (avi : Option Addr) (cvi : Nat) (avh : Option Addr) (cvh : Nat) (avs : Option Addr) (cvs : Nat) (g12 : Nat) (g25 : Nat), Below W0.heap.size W0 W → (MdF (fun j => n0 ≤ j ∧ j < n1) W (.agg #[.int .i64 m.n, .int .i64 m.s, .slice avi m.i.length cvi, .slice avh m.h.length cvh, .slice avs m.e.length cvs, .int .i64 m.z]) m) → (W0.heap.size ≤ n0 ∧ W0.heap.size ≤ n1) → n1 ≤ W.heap.size → G 8 (bits5 7863223) (act5 m d ai ci ah ch ae ce ad cd ap cp N w.heap.size Rb undef (.agg #[.int .i64 m.n, .int .i64 m.s, .slice avi m.i.length cvi, .slice avh m.h.length cvh, .slice avs m.e.length cvs, .int .i64 m.z]) undef undef (.slice (some ⟨g12, 0, none⟩) 0 0) undef undef (.slice (some ⟨g25, 0, none⟩) 0 0) undef undef) W) := by
   intro W n0 n1 avi cvi avh cvh avs cvs g12 g25 hB hM hn0 hn1
   rw [HGE.out]
   unfold act5
   refine wpAnyZ_ready (rs := [3, 25]) (by kernel_rfl) (by simp) ?_
   refine AllReadyZ.cons (i := 3) rfl (fun K hKK => ?_) (AllReadyZ.cons (i := 25) rfl (fun K hKK => ?_) AllReadyZ.nil)
   ·obtain ⟨g8, V, HX, HV, hb, hk⟩ := lay_any W #[] 3
    go_simp
    rw [HV.out, ← HX.out]
    have hB' : Below W0.heap.size W0 V := hB.trans (hb.mono hB.size)
    refine hKK.out _ _ (s5_of (HP0.out.below hB')) (fun hHeld => ?_)
    try simp only [Act.put, List.setIfInBounds_toArray]
    try simp only [List.set_cons_succ]
    try simp only [List.set_cons_zero]
    refine wpAnyZ_listed (l' := (bits5 7863231)) (by kernel_rfl) ?_
    rw [← HGE.out]
    exact st11110.out V n0 n1 avi cvi avh cvh avs cvs g8 g12 g25 hB' (hM.below hb) hn0 (Nat.le_trans hn1 hb.size)
   ·obtain ⟨Kb, V, HX, HV, hb, hk⟩ := lay_any W #[.int .i64 0, .int .i64 0, .slice none 0 0, .slice none 0 0, .slice none 0 0, .int .i64 0, .slice none 0 0, .slice none 0 0, .slice none 0 0, .int .i64 0, .int .i64 0, .bool false, .slice none 0 0, .slice none 0 0] 36
    go_simp
    rw [HV.out, ← HX.out]
    have hB' : Below W0.heap.size W0 V := hB.trans (hb.mono hB.size)
    refine hKK.out _ _ (s5_of (HP0.out.below hB')) (fun hHeld => ?_)
    try simp only [Act.put, List.setIfInBounds_toArray]
    try simp only [List.set_cons_succ]
    try simp only [List.set_cons_zero]
    refine wpAnyZ_listed (l' := (bits5 41417655)) (by kernel_rfl) ?_
    rw [← HGE.out]
    exact st10111.out V n0 n1 avi cvi avh cvh avs cvs g12 g25 Kb hB' (hM.below hb) hn0 (Nat.le_trans hn1 hb.size) hk (HX.out ▸ hB.size) (.inr (HX.out ▸ hn1))
  have st11001 : Hid (∀ (W : World) (n0 n1 : Nat) (avi : Option Addr) (cvi : Nat) (avh : Option Addr) (cvh : Nat) (avs : Option Addr) (cvs : Nat) (g8 : Nat) (Kb : Nat), Below W0.heap.size W0 W → (MdF (fun j => n0 ≤ j ∧ j < n1) W (.agg #[.int .i64 m.n, .int .i64 m.s, .slice avi m.i.length cvi, .slice avh m.h.length cvh, .slice avs m.e.length cvs, .int .i64 m.z]) m) → (W0.heap.size ≤ n0 ∧ W0.heap.size ≤ n1) → n1 ≤ W.heap.size → Bk W Kb 36 #[.int .i64 0, .int .i64 0, .slice none 0 0, .slice none 0 0, .slice none 0 0, .int .i64 0, .slice none 0 0, .slice none 0 0, .slice none 0 0, .int .i64 0, .int .i64 0, .bool false, .slice none 0 0, .slice none 0 0] → W0.heap.size ≤ Kb → (Kb < n0 ∨ n1 ≤ Kb) → G 8 (bits5 40368959) (act5 m d ai ci ah ch ae ce ad cd ap cp N w.heap.size Rb (.pointer (some ⟨Kb, 0, none⟩)) (.agg #[.int .i64 m.n, .int .i64 m.s, .slice avi m.i.length cvi, .slice avh m.h.length cvh, .slice avs m.e.length cvs, .int .i64 m.z]) (.slice (some ⟨g8, 0, none⟩) 0 0) undef undef undef undef undef undef undef) W) := by
   intro W n0 n1 avi cvi avh cvh avs cvs g8 Kb hB hM hn0 hn1 hY hKw hKM
   rw [HGE.out]
   unfold act5
   refine wpAnyZ_ready (rs := [6, 7, 20]) (by kernel_rfl) (by simp) ?_
   refine AllReadyZ.cons (i := 6) rfl (fun K hKK => ?_) (AllReadyZ.cons (i := 7) rfl (fun K hKK => ?_) (AllReadyZ.cons (i := 20) rfl (fun K hKK => ?_) AllReadyZ.nil))
   ·obtain ⟨i0, hi0, hz0, hz1, hz2⟩ := info_parts info3
    refine fresh_pos rfl (.tmp 8) (.tmp 10) 22 rfl 3 i0 (.int .i64 0) 1 8 Tryz.underlying22 hi0 hz0 hz1 hz2 rfl (by decide) g8 rfl (.slice ad d.length cd) d.length (intCells d) rfl (HSD.out W (HB0.out.trans (hB.mono HB0.out.size))) HDL.out (by unfold maxLen; have h9 := HD4.out; omega) (by have h9 := HD4.out; omega) ?_
    intro v' V ho hb
    obtain ⟨ad2, cd2, rfl⟩ := owns_slice ho
    have hD' : V.ownsRow n1 3 1 (.slice ad2 d.length cd2) d.length (intCells d) := owns_mono ho hn1
    have hB' : Below W0.heap.size W0 V := hB.trans (hb.mono hB.size)
    refine hKK.out _ _ (s5_of (HP0.out.below hB')) (fun hHeld => ?_)
    try simp only [Act.put, List.setIfInBounds_toArray]
    try simp only [List.set_cons_succ]
    try simp only [List.set_cons_zero]
    refine wpAnyZ_listed (l' := (bits5 40369023)) (by kernel_rfl) ?_
    rw [← HGE.out]
    exact st21001.out V n0 n1 avi cvi avh cvh avs cvs g8 ad2 cd2 Kb hB' (hM.below hb) hn0 (Nat.le_trans hn1 hb.size) hD' (hY.below hb) hKw hKM
   ·obtain ⟨g12, V, HX, HV, hb, hk⟩ := lay_any W #[] 122
    go_simp
    rw [HV.out, ← HX.out]
    have hB' : Below W0.heap.size W0 V := hB.trans (hb.mono hB.size)
    refine hKK.out _ _ (s5_of (HP0.out.below hB')) (fun hHeld => ?_)
    try simp only [Act.put, List.setIfInBounds_toArray]
    try simp only [List.set_cons_succ]
    try simp only [List.set_cons_zero]
    refine wpAnyZ_listed (l' := (bits5 40369087)) (by kernel_rfl) ?_
    rw [← HGE.out]
    exact st11101.out V n0 n1 avi cvi avh cvh avs cvs g8 g12 Kb hB' (hM.below hb) hn0 (Nat.le_trans hn1 hb.size) (hY.below hb) hKw hKM
   ·obtain ⟨g25, V, HX, HV, hb, hk⟩ := lay_any W #[] 126
    go_simp
    rw [HV.out, ← HX.out]
    have hB' : Below W0.heap.size W0 V := hB.trans (hb.mono hB.size)
    refine hKK.out _ _ (s5_of (HP0.out.below hB')) (fun hHeld => ?_)
    try simp only [Act.put, List.setIfInBounds_toArray]
    try simp only [List.set_cons_succ]
    try simp only [List.set_cons_zero]
    refine wpAnyZ_listed (l' := (bits5 41417535)) (by kernel_rfl) ?_
    rw [← HGE.out]
    exact st11011.out V n0 n1 avi cvi avh cvh avs cvs g8 g25 Kb hB' (hM.below hb) hn0 (Nat.le_trans hn1 hb.size) (hY.below hb) hKw hKM
  have st11010 : Hid (∀ (W : World) (n0 n1 : Nat) (avi : Option Addr) (cvi : Nat) (avh : Option Addr) (cvh : Nat) (avs : Option Addr) (cvs : Nat) (g8 : Nat) (g25 : Nat), Below W0.heap.size W0 W → (MdF (fun j => n0 ≤ j ∧ j < n1) W (.agg #[.int .i64 m.n, .int .i64 m.s, .slice avi m.i.length cvi, .slice avh m.h.length cvh, .slice avs m.e.length cvs, .int .i64 m.z]) m) → (W0.heap.size ≤ n0 ∧ W0.heap.size ≤ n1) → n1 ≤ W.heap.size → G 8 (bits5 7863103) (act5 m d ai ci ah ch ae ce ad cd ap cp N w.heap.size Rb undef (.agg #[.int .i64 m.n, .int .i64 m.s, .slice avi m.i.length cvi, .slice avh m.h.length cvh, .slice avs m.e.length cvs, .int .i64 m.z]) (.slice (some ⟨g8, 0, none⟩) 0 0) undef undef undef undef (.slice (some ⟨g25, 0, none⟩) 0 0) undef undef) W) := by
   intro W n0 n1 avi cvi avh cvh avs cvs g8 g25 hB hM hn0 hn1
   rw [HGE.out]
   unfold act5
   refine wpAnyZ_ready (rs := [6, 7, 25]) (by kernel_rfl) (by simp) ?_
   refine AllReadyZ.cons (i := 6) rfl (fun K hKK => ?_) (AllReadyZ.cons (i := 7) rfl (fun K hKK => ?_) (AllReadyZ.cons (i := 25) rfl (fun K hKK => ?_) AllReadyZ.nil))
   ·obtain ⟨i0, hi0, hz0, hz1, hz2⟩ := info_parts info3
    refine fresh_pos rfl (.tmp 8) (.tmp 10) 22 rfl 3 i0 (.int .i64 0) 1 8 Tryz.underlying22 hi0 hz0 hz1 hz2 rfl (by decide) g8 rfl (.slice ad d.length cd) d.length (intCells d) rfl (HSD.out W (HB0.out.trans (hB.mono HB0.out.size))) HDL.out (by unfold maxLen; have h9 := HD4.out; omega) (by have h9 := HD4.out; omega) ?_
    intro v' V ho hb
    obtain ⟨ad2, cd2, rfl⟩ := owns_slice ho
    have hD' : V.ownsRow n1 3 1 (.slice ad2 d.length cd2) d.length (intCells d) := owns_mono ho hn1
    have hB' : Below W0.heap.size W0 V := hB.trans (hb.mono hB.size)
    refine hKK.out _ _ (s5_of (HP0.out.below hB')) (fun hHeld => ?_)
    try simp only [Act.put, List.setIfInBounds_toArray]
    try simp only [List.set_cons_succ]
    try simp only [List.set_cons_zero]
    refine wpAnyZ_listed (l' := (bits5 7863167)) (by kernel_rfl) ?_
    rw [← HGE.out]
    exact st21010.out V n0 n1 avi cvi avh cvh avs cvs g8 ad2 cd2 g25 hB' (hM.below hb) hn0 (Nat.le_trans hn1 hb.size) hD'
   ·obtain ⟨g12, V, HX, HV, hb, hk⟩ := lay_any W #[] 122
    go_simp
    rw [HV.out, ← HX.out]
    have hB' : Below W0.heap.size W0 V := hB.trans (hb.mono hB.size)
    refine hKK.out _ _ (s5_of (HP0.out.below hB')) (fun hHeld => ?_)
    try simp only [Act.put, List.setIfInBounds_toArray]
    try simp only [List.set_cons_succ]
    try simp only [List.set_cons_zero]
    refine wpAnyZ_listed (l' := (bits5 7863231)) (by kernel_rfl) ?_
    rw [← HGE.out]
    exact st11110.out V n0 n1 avi cvi avh cvh avs cvs g8 g12 g25 hB' (hM.below hb) hn0 (Nat.le_trans hn1 hb.size)
   ·obtain ⟨Kb, V, HX, HV, hb, hk⟩ := lay_any W #[.int .i64 0, .int .i64 0, .slice none 0 0, .slice none 0 0, .slice none 0 0, .int .i64 0, .slice none 0 0, .slice none 0 0, .slice none 0 0, .int .i64 0, .int .i64 0, .bool false, .slice none 0 0, .slice none 0 0] 36
    go_simp
    rw [HV.out, ← HX.out]
    have hB' : Below W0.heap.size W0 V := hB.trans (hb.mono hB.size)
    refine hKK.out _ _ (s5_of (HP0.out.below hB')) (fun hHeld => ?_)
    try simp only [Act.put, List.setIfInBounds_toArray]
    try simp only [List.set_cons_succ]
    try simp only [List.set_cons_zero]
    refine wpAnyZ_listed (l' := (bits5 41417535)) (by kernel_rfl) ?_
    rw [← HGE.out]
    exact st11011.out V n0 n1 avi cvi avh cvh avs cvs g8 g25 Kb hB' (hM.below hb) hn0 (Nat.le_trans hn1 hb.size) hk (HX.out ▸ hB.size) (.inr (HX.out ▸ hn1))
  have st11100 : Hid (∀ (W : World) (n0 n1 : Nat) (avi : Option Addr) (cvi : Nat) (avh : Option Addr) (cvh : Nat) (avs : Option Addr) (cvs : Nat) (g8 : Nat) (g12 : Nat), Below W0.heap.size W0 W → (MdF (fun j => n0 ≤ j ∧ j < n1) W (.agg #[.int .i64 m.n, .int .i64 m.s, .slice avi m.i.length cvi, .slice avh m.h.length cvh, .slice avs m.e.length cvs, .int .i64 m.z]) m) → (W0.heap.size ≤ n0 ∧ W0.heap.size ≤ n1) → n1 ≤ W.heap.size → G 8 (bits5 6814655) (act5 m d ai ci ah ch ae ce ad cd ap cp N w.heap.size Rb undef (.agg #[.int .i64 m.n, .int .i64 m.s, .slice avi m.i.length cvi, .slice avh m.h.length cvh, .slice avs m.e.length cvs, .int .i64 m.z]) (.slice (some ⟨g8, 0, none⟩) 0 0) undef (.slice (some ⟨g12, 0, none⟩) 0 0) undef undef undef undef undef) W) := by
   intro W n0 n1 avi cvi avh cvh avs cvs g8 g12 hB hM hn0 hn1
   rw [HGE.out]
   unfold act5
   refine wpAnyZ_ready (rs := [6, 20, 25]) (by kernel_rfl) (by simp) ?_
   refine AllReadyZ.cons (i := 6) rfl (fun K hKK => ?_) (AllReadyZ.cons (i := 20) rfl (fun K hKK => ?_) (AllReadyZ.cons (i := 25) rfl (fun K hKK => ?_) AllReadyZ.nil))
   ·obtain ⟨i0, hi0, hz0, hz1, hz2⟩ := info_parts info3
    refine fresh_pos rfl (.tmp 8) (.tmp 10) 22 rfl 3 i0 (.int .i64 0) 1 8 Tryz.underlying22 hi0 hz0 hz1 hz2 rfl (by decide) g8 rfl (.slice ad d.length cd) d.length (intCells d) rfl (HSD.out W (HB0.out.trans (hB.mono HB0.out.size))) HDL.out (by unfold maxLen; have h9 := HD4.out; omega) (by have h9 := HD4.out; omega) ?_
    intro v' V ho hb
    obtain ⟨ad2, cd2, rfl⟩ := owns_slice ho
    have hD' : V.ownsRow n1 3 1 (.slice ad2 d.length cd2) d.length (intCells d) := owns_mono ho hn1
    have hB' : Below W0.heap.size W0 V := hB.trans (hb.mono hB.size)
    refine hKK.out _ _ (s5_of (HP0.out.below hB')) (fun hHeld => ?_)
    try simp only [Act.put, List.setIfInBounds_toArray]
    try simp only [List.set_cons_succ]
    try simp only [List.set_cons_zero]
    refine wpAnyZ_listed (l' := (bits5 6814719)) (by kernel_rfl) ?_
    rw [← HGE.out]
    exact st21100.out V n0 n1 avi cvi avh cvh avs cvs g8 ad2 cd2 g12 hB' (hM.below hb) hn0 (Nat.le_trans hn1 hb.size) hD'
   ·obtain ⟨g25, V, HX, HV, hb, hk⟩ := lay_any W #[] 126
    go_simp
    rw [HV.out, ← HX.out]
    have hB' : Below W0.heap.size W0 V := hB.trans (hb.mono hB.size)
    refine hKK.out _ _ (s5_of (HP0.out.below hB')) (fun hHeld => ?_)
    try simp only [Act.put, List.setIfInBounds_toArray]
    try simp only [List.set_cons_succ]
    try simp only [List.set_cons_zero]
    refine wpAnyZ_listed (l' := (bits5 7863231)) (by kernel_rfl) ?_
    rw [← HGE.out]
    exact st11110.out V n0 n1 avi cvi avh cvh avs cvs g8 g12 g25 hB' (hM.below hb) hn0 (Nat.le_trans hn1 hb.size)
   ·obtain ⟨Kb, V, HX, HV, hb, hk⟩ := lay_any W #[.int .i64 0, .int .i64 0, .slice none 0 0, .slice none 0 0, .slice none 0 0, .int .i64 0, .slice none 0 0, .slice none 0 0, .slice none 0 0, .int .i64 0, .int .i64 0, .bool false, .slice none 0 0, .slice none 0 0] 36
    go_simp
    rw [HV.out, ← HX.out]
    have hB' : Below W0.heap.size W0 V := hB.trans (hb.mono hB.size)
    refine hKK.out _ _ (s5_of (HP0.out.below hB')) (fun hHeld => ?_)
    try simp only [Act.put, List.setIfInBounds_toArray]
    try simp only [List.set_cons_succ]
    try simp only [List.set_cons_zero]
    refine wpAnyZ_listed (l' := (bits5 40369087)) (by kernel_rfl) ?_
    rw [← HGE.out]
    exact st11101.out V n0 n1 avi cvi avh cvh avs cvs g8 g12 Kb hB' (hM.below hb) hn0 (Nat.le_trans hn1 hb.size) hk (HX.out ▸ hB.size) (.inr (HX.out ▸ hn1))
  have st21000 : Hid (∀ (W : World) (n0 n1 : Nat) (avi : Option Addr) (cvi : Nat) (avh : Option Addr) (cvh : Nat) (avs : Option Addr) (cvs : Nat) (g8 : Nat) (ad2 : Option Addr) (cd2 : Nat), Below W0.heap.size W0 W → (MdF (fun j => n0 ≤ j ∧ j < n1) W (.agg #[.int .i64 m.n, .int .i64 m.s, .slice avi m.i.length cvi, .slice avh m.h.length cvh, .slice avs m.e.length cvs, .int .i64 m.z]) m) → (W0.heap.size ≤ n0 ∧ W0.heap.size ≤ n1) → n1 ≤ W.heap.size → W.ownsRow n1 3 1 (.slice ad2 d.length cd2) d.length (intCells d) → G 8 (bits5 6814591) (act5 m d ai ci ah ch ae ce ad cd ap cp N w.heap.size Rb undef (.agg #[.int .i64 m.n, .int .i64 m.s, .slice avi m.i.length cvi, .slice avh m.h.length cvh, .slice avs m.e.length cvs, .int .i64 m.z]) (.slice (some ⟨g8, 0, none⟩) 0 0) (.slice ad2 d.length cd2) undef undef undef undef undef undef) W) := by
   intro W n0 n1 avi cvi avh cvh avs cvs g8 ad2 cd2 hB hM hn0 hn1 hD
   rw [HGE.out]
   unfold act5
   refine wpAnyZ_ready (rs := [7, 20, 25]) (by kernel_rfl) (by simp) ?_
   refine AllReadyZ.cons (i := 7) rfl (fun K hKK => ?_) (AllReadyZ.cons (i := 20) rfl (fun K hKK => ?_) (AllReadyZ.cons (i := 25) rfl (fun K hKK => ?_) AllReadyZ.nil))
   ·obtain ⟨g12, V, HX, HV, hb, hk⟩ := lay_any W #[] 122
    go_simp
    rw [HV.out, ← HX.out]
    have hB' : Below W0.heap.size W0 V := hB.trans (hb.mono hB.size)
    refine hKK.out _ _ (s5_of (HP0.out.below hB')) (fun hHeld => ?_)
    try simp only [Act.put, List.setIfInBounds_toArray]
    try simp only [List.set_cons_succ]
    try simp only [List.set_cons_zero]
    refine wpAnyZ_listed (l' := (bits5 6814719)) (by kernel_rfl) ?_
    rw [← HGE.out]
    exact st21100.out V n0 n1 avi cvi avh cvh avs cvs g8 ad2 cd2 g12 hB' (hM.below hb) hn0 (Nat.le_trans hn1 hb.size) (owns_turns (S := fun _ => False) hD (Turns.of_below hb) (fun _ _ => id))
   ·obtain ⟨g25, V, HX, HV, hb, hk⟩ := lay_any W #[] 126
    go_simp
    rw [HV.out, ← HX.out]
    have hB' : Below W0.heap.size W0 V := hB.trans (hb.mono hB.size)
    refine hKK.out _ _ (s5_of (HP0.out.below hB')) (fun hHeld => ?_)
    try simp only [Act.put, List.setIfInBounds_toArray]
    try simp only [List.set_cons_succ]
    try simp only [List.set_cons_zero]
    refine wpAnyZ_listed (l' := (bits5 7863167)) (by kernel_rfl) ?_
    rw [← HGE.out]
    exact st21010.out V n0 n1 avi cvi avh cvh avs cvs g8 ad2 cd2 g25 hB' (hM.below hb) hn0 (Nat.le_trans hn1 hb.size) (owns_turns (S := fun _ => False) hD (Turns.of_below hb) (fun _ _ => id))
   ·obtain ⟨Kb, V, HX, HV, hb, hk⟩ := lay_any W #[.int .i64 0, .int .i64 0, .slice none 0 0, .slice none 0 0, .slice none 0 0, .int .i64 0, .slice none 0 0, .slice none 0 0, .slice none 0 0, .int .i64 0, .int .i64 0, .bool false, .slice none 0 0, .slice none 0 0] 36
    go_simp
    rw [HV.out, ← HX.out]
    have hB' : Below W0.heap.size W0 V := hB.trans (hb.mono hB.size)
    refine hKK.out _ _ (s5_of (HP0.out.below hB')) (fun hHeld => ?_)
    try simp only [Act.put, List.setIfInBounds_toArray]
    try simp only [List.set_cons_succ]
    try simp only [List.set_cons_zero]
    refine wpAnyZ_listed (l' := (bits5 40369023)) (by kernel_rfl) ?_
    rw [← HGE.out]
    exact st21001.out V n0 n1 avi cvi avh cvh avs cvs g8 ad2 cd2 Kb hB' (hM.below hb) hn0 (Nat.le_trans hn1 hb.size) (owns_turns (S := fun _ => False) hD (Turns.of_below hb) (fun _ _ => id)) hk (HX.out ▸ hB.size) (.inr (HX.out ▸ hn1))
  have st00011 : Hid (∀ (W : World) (g25 : Nat) (Kb : Nat), Below W0.heap.size W0 W → Bk W Kb 36 #[.int .i64 0, .int .i64 0, .slice none 0 0, .slice none 0 0, .slice none 0 0, .int .i64 0, .slice none 0 0, .slice none 0 0, .slice none 0 0, .int .i64 0, .int .i64 0, .bool false, .slice none 0 0, .slice none 0 0] → W0.heap.size ≤ Kb → G 9 (bits5 41417523) (act5 m d ai ci ah ch ae ce ad cd ap cp N w.heap.size Rb (.pointer (some ⟨Kb, 0, none⟩)) undef undef undef undef undef undef (.slice (some ⟨g25, 0, none⟩) 0 0) undef undef) W) := by
   intro W g25 Kb hB hY hKw
   rw [HGE.out]
   unfold act5
   refine wpAnyZ_ready (rs := [2, 3, 7]) (by kernel_rfl) (by simp) ?_
   refine AllReadyZ.cons (i := 2) rfl (fun K hKK => ?_) (AllReadyZ.cons (i := 3) rfl (fun K hKK => ?_) (AllReadyZ.cons (i := 7) rfl (fun K hKK => ?_) AllReadyZ.nil))
   ·go_simp
    refine (ownM_any _ m W (by have h9 := HMS.out; omega) (by have h9 := HMS.out; omega) (by have h9 := HMS.out; omega) (fun j hj => Nat.le_trans (HML.out j) (by omega)) (HM.out.below (HB0.out.trans (hB.mono HB0.out.size)))).mono ?_
    rintro e V ⟨y0, rfl, hb, hmd⟩
    obtain ⟨avi, cvi, avh, cvh, avs, cvs, rfl⟩ := hmd.form
    obtain ⟨n0, hn0e⟩ : ∃ n, n = W.heap.size := ⟨_, rfl⟩
    obtain ⟨n1, hn1e⟩ : ∃ n, n = V.heap.size := ⟨_, rfl⟩
    rw [← hn0e, ← hn1e] at hmd
    have hn0 : W0.heap.size ≤ n0 ∧ W0.heap.size ≤ n1 := ⟨hn0e ▸ hB.size, hn1e ▸ Nat.le_trans hB.size hb.size⟩
    have hn1 : n1 ≤ V.heap.size := by omega
    have hKM' : Kb < n0 ∨ n1 ≤ Kb := .inl (hn0e ▸ hY.lt)
    try go_simp
    have hB' : Below W0.heap.size W0 V := hB.trans (hb.mono hB.size)
    refine hKK.out _ _ (s5_of (HP0.out.below hB')) (fun hHeld => ?_)
    try simp only [Act.put, List.setIfInBounds_toArray]
    try simp only [List.set_cons_succ]
    try simp only [List.set_cons_zero]
    refine wpAnyZ_listed (l' := (bits5 41417527)) (by kernel_rfl) ?_
    rw [← HGE.out]
    exact st10011.out V n0 n1 avi cvi avh cvh avs cvs g25 Kb hB' hmd hn0 hn1 (hY.below hb) hKw hKM'
   ·obtain ⟨g8, V, HX, HV, hb, hk⟩ := lay_any W #[] 3
    go_simp
    rw [HV.out, ← HX.out]
    have hB' : Below W0.heap.size W0 V := hB.trans (hb.mono hB.size)
    refine hKK.out _ _ (s5_of (HP0.out.below hB')) (fun hHeld => ?_)
    try simp only [Act.put, List.setIfInBounds_toArray]
    try simp only [List.set_cons_succ]
    try simp only [List.set_cons_zero]
    refine wpAnyZ_listed (l' := (bits5 41417531)) (by kernel_rfl) ?_
    rw [← HGE.out]
    exact st01011.out V g8 g25 Kb hB' (hY.below hb) hKw
   ·obtain ⟨g12, V, HX, HV, hb, hk⟩ := lay_any W #[] 122
    go_simp
    rw [HV.out, ← HX.out]
    have hB' : Below W0.heap.size W0 V := hB.trans (hb.mono hB.size)
    refine hKK.out _ _ (s5_of (HP0.out.below hB')) (fun hHeld => ?_)
    try simp only [Act.put, List.setIfInBounds_toArray]
    try simp only [List.set_cons_succ]
    try simp only [List.set_cons_zero]
    refine wpAnyZ_listed (l' := (bits5 41417651)) (by kernel_rfl) ?_
    rw [← HGE.out]
    exact st00111.out V g12 g25 Kb hB' (hY.below hb) hKw
  have st00101 : Hid (∀ (W : World) (g12 : Nat) (Kb : Nat), Below W0.heap.size W0 W → Bk W Kb 36 #[.int .i64 0, .int .i64 0, .slice none 0 0, .slice none 0 0, .slice none 0 0, .int .i64 0, .slice none 0 0, .slice none 0 0, .slice none 0 0, .int .i64 0, .int .i64 0, .bool false, .slice none 0 0, .slice none 0 0] → W0.heap.size ≤ Kb → G 9 (bits5 40369075) (act5 m d ai ci ah ch ae ce ad cd ap cp N w.heap.size Rb (.pointer (some ⟨Kb, 0, none⟩)) undef undef undef (.slice (some ⟨g12, 0, none⟩) 0 0) undef undef undef undef undef) W) := by
   intro W g12 Kb hB hY hKw
   rw [HGE.out]
   unfold act5
   refine wpAnyZ_ready (rs := [2, 3, 20]) (by kernel_rfl) (by simp) ?_
   refine AllReadyZ.cons (i := 2) rfl (fun K hKK => ?_) (AllReadyZ.cons (i := 3) rfl (fun K hKK => ?_) (AllReadyZ.cons (i := 20) rfl (fun K hKK => ?_) AllReadyZ.nil))
   ·go_simp
    refine (ownM_any _ m W (by have h9 := HMS.out; omega) (by have h9 := HMS.out; omega) (by have h9 := HMS.out; omega) (fun j hj => Nat.le_trans (HML.out j) (by omega)) (HM.out.below (HB0.out.trans (hB.mono HB0.out.size)))).mono ?_
    rintro e V ⟨y0, rfl, hb, hmd⟩
    obtain ⟨avi, cvi, avh, cvh, avs, cvs, rfl⟩ := hmd.form
    obtain ⟨n0, hn0e⟩ : ∃ n, n = W.heap.size := ⟨_, rfl⟩
    obtain ⟨n1, hn1e⟩ : ∃ n, n = V.heap.size := ⟨_, rfl⟩
    rw [← hn0e, ← hn1e] at hmd
    have hn0 : W0.heap.size ≤ n0 ∧ W0.heap.size ≤ n1 := ⟨hn0e ▸ hB.size, hn1e ▸ Nat.le_trans hB.size hb.size⟩
    have hn1 : n1 ≤ V.heap.size := by omega
    have hKM' : Kb < n0 ∨ n1 ≤ Kb := .inl (hn0e ▸ hY.lt)
    try go_simp
    have hB' : Below W0.heap.size W0 V := hB.trans (hb.mono hB.size)
    refine hKK.out _ _ (s5_of (HP0.out.below hB')) (fun hHeld => ?_)
    try simp only [Act.put, List.setIfInBounds_toArray]
    try simp only [List.set_cons_succ]
    try simp only [List.set_cons_zero]
    refine wpAnyZ_listed (l' := (bits5 40369079)) (by kernel_rfl) ?_
    rw [← HGE.out]
    exact st10101.out V n0 n1 avi cvi avh cvh avs cvs g12 Kb hB' hmd hn0 hn1 (hY.below hb) hKw hKM'
   ·obtain ⟨g8, V, HX, HV, hb, hk⟩ := lay_any W #[] 3
    go_simp
    rw [HV.out, ← HX.out]
    have hB' : Below W0.heap.size W0 V := hB.trans (hb.mono hB.size)
    refine hKK.out _ _ (s5_of (HP0.out.below hB')) (fun hHeld => ?_)
    try simp only [Act.put, List.setIfInBounds_toArray]
    try simp only [List.set_cons_succ]
    try simp only [List.set_cons_zero]
    refine wpAnyZ_listed (l' := (bits5 40369083)) (by kernel_rfl) ?_
    rw [← HGE.out]
    exact st01101.out V g8 g12 Kb hB' (hY.below hb) hKw
   ·obtain ⟨g25, V, HX, HV, hb, hk⟩ := lay_any W #[] 126
    go_simp
    rw [HV.out, ← HX.out]
    have hB' : Below W0.heap.size W0 V := hB.trans (hb.mono hB.size)
    refine hKK.out _ _ (s5_of (HP0.out.below hB')) (fun hHeld => ?_)
    try simp only [Act.put, List.setIfInBounds_toArray]
    try simp only [List.set_cons_succ]
    try simp only [List.set_cons_zero]
    refine wpAnyZ_listed (l' := (bits5 41417651)) (by kernel_rfl) ?_
    rw [← HGE.out]
    exact st00111.out V g12 g25 Kb hB' (hY.below hb) hKw
  have st00110 : Hid (∀ (W : World) (g12 : Nat) (g25 : Nat), Below W0.heap.size W0 W → G 9 (bits5 7863219) (act5 m d ai ci ah ch ae ce ad cd ap cp N w.heap.size Rb undef undef undef undef (.slice (some ⟨g12, 0, none⟩) 0 0) undef undef (.slice (some ⟨g25, 0, none⟩) 0 0) undef undef) W) := by
   intro W g12 g25 hB
   rw [HGE.out]
   unfold act5
   refine wpAnyZ_ready (rs := [2, 3, 25]) (by kernel_rfl) (by simp) ?_
   refine AllReadyZ.cons (i := 2) rfl (fun K hKK => ?_) (AllReadyZ.cons (i := 3) rfl (fun K hKK => ?_) (AllReadyZ.cons (i := 25) rfl (fun K hKK => ?_) AllReadyZ.nil))
   ·go_simp
    refine (ownM_any _ m W (by have h9 := HMS.out; omega) (by have h9 := HMS.out; omega) (by have h9 := HMS.out; omega) (fun j hj => Nat.le_trans (HML.out j) (by omega)) (HM.out.below (HB0.out.trans (hB.mono HB0.out.size)))).mono ?_
    rintro e V ⟨y0, rfl, hb, hmd⟩
    obtain ⟨avi, cvi, avh, cvh, avs, cvs, rfl⟩ := hmd.form
    obtain ⟨n0, hn0e⟩ : ∃ n, n = W.heap.size := ⟨_, rfl⟩
    obtain ⟨n1, hn1e⟩ : ∃ n, n = V.heap.size := ⟨_, rfl⟩
    rw [← hn0e, ← hn1e] at hmd
    have hn0 : W0.heap.size ≤ n0 ∧ W0.heap.size ≤ n1 := ⟨hn0e ▸ hB.size, hn1e ▸ Nat.le_trans hB.size hb.size⟩
    have hn1 : n1 ≤ V.heap.size := by omega
    try go_simp
    have hB' : Below W0.heap.size W0 V := hB.trans (hb.mono hB.size)
    refine hKK.out _ _ (s5_of (HP0.out.below hB')) (fun hHeld => ?_)
    try simp only [Act.put, List.setIfInBounds_toArray]
    try simp only [List.set_cons_succ]
    try simp only [List.set_cons_zero]
    refine wpAnyZ_listed (l' := (bits5 7863223)) (by kernel_rfl) ?_
    rw [← HGE.out]
    exact st10110.out V n0 n1 avi cvi avh cvh avs cvs g12 g25 hB' hmd hn0 hn1
   ·obtain ⟨g8, V, HX, HV, hb, hk⟩ := lay_any W #[] 3
    go_simp
    rw [HV.out, ← HX.out]
    have hB' : Below W0.heap.size W0 V := hB.trans (hb.mono hB.size)
    refine hKK.out _ _ (s5_of (HP0.out.below hB')) (fun hHeld => ?_)
    try simp only [Act.put, List.setIfInBounds_toArray]
    try simp only [List.set_cons_succ]
    try simp only [List.set_cons_zero]
    refine wpAnyZ_listed (l' := (bits5 7863227)) (by kernel_rfl) ?_
    rw [← HGE.out]
    exact st01110.out V g8 g12 g25 hB'
   ·obtain ⟨Kb, V, HX, HV, hb, hk⟩ := lay_any W #[.int .i64 0, .int .i64 0, .slice none 0 0, .slice none 0 0, .slice none 0 0, .int .i64 0, .slice none 0 0, .slice none 0 0, .slice none 0 0, .int .i64 0, .int .i64 0, .bool false, .slice none 0 0, .slice none 0 0] 36
    go_simp
    rw [HV.out, ← HX.out]
    have hB' : Below W0.heap.size W0 V := hB.trans (hb.mono hB.size)
    refine hKK.out _ _ (s5_of (HP0.out.below hB')) (fun hHeld => ?_)
    try simp only [Act.put, List.setIfInBounds_toArray]
    try simp only [List.set_cons_succ]
    try simp only [List.set_cons_zero]
    refine wpAnyZ_listed (l' := (bits5 41417651)) (by kernel_rfl) ?_
    rw [← HGE.out]
    exact st00111.out V g12 g25 Kb hB' hk (HX.out ▸ hB.size)
  have st01001 : Hid (∀ (W : World) (g8 : Nat) (Kb : Nat), Below W0.heap.size W0 W → Bk W Kb 36 #[.int .i64 0, .int .i64 0, .slice none 0 0, .slice none 0 0, .slice none 0 0, .int .i64 0, .slice none 0 0, .slice none 0 0, .slice none 0 0, .int .i64 0, .int .i64 0, .bool false, .slice none 0 0, .slice none 0 0] → W0.heap.size ≤ Kb → G 9 (bits5 40368955) (act5 m d ai ci ah ch ae ce ad cd ap cp N w.heap.size Rb (.pointer (some ⟨Kb, 0, none⟩)) undef (.slice (some ⟨g8, 0, none⟩) 0 0) undef undef undef undef undef undef undef) W) := by
   intro W g8 Kb hB hY hKw
   rw [HGE.out]
   unfold act5
   refine wpAnyZ_ready (rs := [2, 7, 20]) (by kernel_rfl) (by simp) ?_
   refine AllReadyZ.cons (i := 2) rfl (fun K hKK => ?_) (AllReadyZ.cons (i := 7) rfl (fun K hKK => ?_) (AllReadyZ.cons (i := 20) rfl (fun K hKK => ?_) AllReadyZ.nil))
   ·go_simp
    refine (ownM_any _ m W (by have h9 := HMS.out; omega) (by have h9 := HMS.out; omega) (by have h9 := HMS.out; omega) (fun j hj => Nat.le_trans (HML.out j) (by omega)) (HM.out.below (HB0.out.trans (hB.mono HB0.out.size)))).mono ?_
    rintro e V ⟨y0, rfl, hb, hmd⟩
    obtain ⟨avi, cvi, avh, cvh, avs, cvs, rfl⟩ := hmd.form
    obtain ⟨n0, hn0e⟩ : ∃ n, n = W.heap.size := ⟨_, rfl⟩
    obtain ⟨n1, hn1e⟩ : ∃ n, n = V.heap.size := ⟨_, rfl⟩
    rw [← hn0e, ← hn1e] at hmd
    have hn0 : W0.heap.size ≤ n0 ∧ W0.heap.size ≤ n1 := ⟨hn0e ▸ hB.size, hn1e ▸ Nat.le_trans hB.size hb.size⟩
    have hn1 : n1 ≤ V.heap.size := by omega
    have hKM' : Kb < n0 ∨ n1 ≤ Kb := .inl (hn0e ▸ hY.lt)
    try go_simp
    have hB' : Below W0.heap.size W0 V := hB.trans (hb.mono hB.size)
    refine hKK.out _ _ (s5_of (HP0.out.below hB')) (fun hHeld => ?_)
    try simp only [Act.put, List.setIfInBounds_toArray]
    try simp only [List.set_cons_succ]
    try simp only [List.set_cons_zero]
    refine wpAnyZ_listed (l' := (bits5 40368959)) (by kernel_rfl) ?_
    rw [← HGE.out]
    exact st11001.out V n0 n1 avi cvi avh cvh avs cvs g8 Kb hB' hmd hn0 hn1 (hY.below hb) hKw hKM'
   ·obtain ⟨g12, V, HX, HV, hb, hk⟩ := lay_any W #[] 122
    go_simp
    rw [HV.out, ← HX.out]
    have hB' : Below W0.heap.size W0 V := hB.trans (hb.mono hB.size)
    refine hKK.out _ _ (s5_of (HP0.out.below hB')) (fun hHeld => ?_)
    try simp only [Act.put, List.setIfInBounds_toArray]
    try simp only [List.set_cons_succ]
    try simp only [List.set_cons_zero]
    refine wpAnyZ_listed (l' := (bits5 40369083)) (by kernel_rfl) ?_
    rw [← HGE.out]
    exact st01101.out V g8 g12 Kb hB' (hY.below hb) hKw
   ·obtain ⟨g25, V, HX, HV, hb, hk⟩ := lay_any W #[] 126
    go_simp
    rw [HV.out, ← HX.out]
    have hB' : Below W0.heap.size W0 V := hB.trans (hb.mono hB.size)
    refine hKK.out _ _ (s5_of (HP0.out.below hB')) (fun hHeld => ?_)
    try simp only [Act.put, List.setIfInBounds_toArray]
    try simp only [List.set_cons_succ]
    try simp only [List.set_cons_zero]
    refine wpAnyZ_listed (l' := (bits5 41417531)) (by kernel_rfl) ?_
    rw [← HGE.out]
    exact st01011.out V g8 g25 Kb hB' (hY.below hb) hKw
  have st01010 : Hid (∀ (W : World) (g8 : Nat) (g25 : Nat), Below W0.heap.size W0 W → G 9 (bits5 7863099) (act5 m d ai ci ah ch ae ce ad cd ap cp N w.heap.size Rb undef undef (.slice (some ⟨g8, 0, none⟩) 0 0) undef undef undef undef (.slice (some ⟨g25, 0, none⟩) 0 0) undef undef) W) := by
   intro W g8 g25 hB
   rw [HGE.out]
   unfold act5
   refine wpAnyZ_ready (rs := [2, 7, 25]) (by kernel_rfl) (by simp) ?_
   refine AllReadyZ.cons (i := 2) rfl (fun K hKK => ?_) (AllReadyZ.cons (i := 7) rfl (fun K hKK => ?_) (AllReadyZ.cons (i := 25) rfl (fun K hKK => ?_) AllReadyZ.nil))
   ·go_simp
    refine (ownM_any _ m W (by have h9 := HMS.out; omega) (by have h9 := HMS.out; omega) (by have h9 := HMS.out; omega) (fun j hj => Nat.le_trans (HML.out j) (by omega)) (HM.out.below (HB0.out.trans (hB.mono HB0.out.size)))).mono ?_
    rintro e V ⟨y0, rfl, hb, hmd⟩
    obtain ⟨avi, cvi, avh, cvh, avs, cvs, rfl⟩ := hmd.form
    obtain ⟨n0, hn0e⟩ : ∃ n, n = W.heap.size := ⟨_, rfl⟩
    obtain ⟨n1, hn1e⟩ : ∃ n, n = V.heap.size := ⟨_, rfl⟩
    rw [← hn0e, ← hn1e] at hmd
    have hn0 : W0.heap.size ≤ n0 ∧ W0.heap.size ≤ n1 := ⟨hn0e ▸ hB.size, hn1e ▸ Nat.le_trans hB.size hb.size⟩
    have hn1 : n1 ≤ V.heap.size := by omega
    try go_simp
    have hB' : Below W0.heap.size W0 V := hB.trans (hb.mono hB.size)
    refine hKK.out _ _ (s5_of (HP0.out.below hB')) (fun hHeld => ?_)
    try simp only [Act.put, List.setIfInBounds_toArray]
    try simp only [List.set_cons_succ]
    try simp only [List.set_cons_zero]
    refine wpAnyZ_listed (l' := (bits5 7863103)) (by kernel_rfl) ?_
    rw [← HGE.out]
    exact st11010.out V n0 n1 avi cvi avh cvh avs cvs g8 g25 hB' hmd hn0 hn1
   ·obtain ⟨g12, V, HX, HV, hb, hk⟩ := lay_any W #[] 122
    go_simp
    rw [HV.out, ← HX.out]
    have hB' : Below W0.heap.size W0 V := hB.trans (hb.mono hB.size)
    refine hKK.out _ _ (s5_of (HP0.out.below hB')) (fun hHeld => ?_)
    try simp only [Act.put, List.setIfInBounds_toArray]
    try simp only [List.set_cons_succ]
    try simp only [List.set_cons_zero]
    refine wpAnyZ_listed (l' := (bits5 7863227)) (by kernel_rfl) ?_
    rw [← HGE.out]
    exact st01110.out V g8 g12 g25 hB'
   ·obtain ⟨Kb, V, HX, HV, hb, hk⟩ := lay_any W #[.int .i64 0, .int .i64 0, .slice none 0 0, .slice none 0 0, .slice none 0 0, .int .i64 0, .slice none 0 0, .slice none 0 0, .slice none 0 0, .int .i64 0, .int .i64 0, .bool false, .slice none 0 0, .slice none 0 0] 36
    go_simp
    rw [HV.out, ← HX.out]
    have hB' : Below W0.heap.size W0 V := hB.trans (hb.mono hB.size)
    refine hKK.out _ _ (s5_of (HP0.out.below hB')) (fun hHeld => ?_)
    try simp only [Act.put, List.setIfInBounds_toArray]
    try simp only [List.set_cons_succ]
    try simp only [List.set_cons_zero]
    refine wpAnyZ_listed (l' := (bits5 41417531)) (by kernel_rfl) ?_
    rw [← HGE.out]
    exact st01011.out V g8 g25 Kb hB' hk (HX.out ▸ hB.size)
  have st01100 : Hid (∀ (W : World) (g8 : Nat) (g12 : Nat), Below W0.heap.size W0 W → G 9 (bits5 6814651) (act5 m d ai ci ah ch ae ce ad cd ap cp N w.heap.size Rb undef undef (.slice (some ⟨g8, 0, none⟩) 0 0) undef (.slice (some ⟨g12, 0, none⟩) 0 0) undef undef undef undef undef) W) := by
   intro W g8 g12 hB
   rw [HGE.out]
   unfold act5
   refine wpAnyZ_ready (rs := [2, 20, 25]) (by kernel_rfl) (by simp) ?_
   refine AllReadyZ.cons (i := 2) rfl (fun K hKK => ?_) (AllReadyZ.cons (i := 20) rfl (fun K hKK => ?_) (AllReadyZ.cons (i := 25) rfl (fun K hKK => ?_) AllReadyZ.nil))
   ·go_simp
    refine (ownM_any _ m W (by have h9 := HMS.out; omega) (by have h9 := HMS.out; omega) (by have h9 := HMS.out; omega) (fun j hj => Nat.le_trans (HML.out j) (by omega)) (HM.out.below (HB0.out.trans (hB.mono HB0.out.size)))).mono ?_
    rintro e V ⟨y0, rfl, hb, hmd⟩
    obtain ⟨avi, cvi, avh, cvh, avs, cvs, rfl⟩ := hmd.form
    obtain ⟨n0, hn0e⟩ : ∃ n, n = W.heap.size := ⟨_, rfl⟩
    obtain ⟨n1, hn1e⟩ : ∃ n, n = V.heap.size := ⟨_, rfl⟩
    rw [← hn0e, ← hn1e] at hmd
    have hn0 : W0.heap.size ≤ n0 ∧ W0.heap.size ≤ n1 := ⟨hn0e ▸ hB.size, hn1e ▸ Nat.le_trans hB.size hb.size⟩
    have hn1 : n1 ≤ V.heap.size := by omega
    try go_simp
    have hB' : Below W0.heap.size W0 V := hB.trans (hb.mono hB.size)
    refine hKK.out _ _ (s5_of (HP0.out.below hB')) (fun hHeld => ?_)
    try simp only [Act.put, List.setIfInBounds_toArray]
    try simp only [List.set_cons_succ]
    try simp only [List.set_cons_zero]
    refine wpAnyZ_listed (l' := (bits5 6814655)) (by kernel_rfl) ?_
    rw [← HGE.out]
    exact st11100.out V n0 n1 avi cvi avh cvh avs cvs g8 g12 hB' hmd hn0 hn1
   ·obtain ⟨g25, V, HX, HV, hb, hk⟩ := lay_any W #[] 126
    go_simp
    rw [HV.out, ← HX.out]
    have hB' : Below W0.heap.size W0 V := hB.trans (hb.mono hB.size)
    refine hKK.out _ _ (s5_of (HP0.out.below hB')) (fun hHeld => ?_)
    try simp only [Act.put, List.setIfInBounds_toArray]
    try simp only [List.set_cons_succ]
    try simp only [List.set_cons_zero]
    refine wpAnyZ_listed (l' := (bits5 7863227)) (by kernel_rfl) ?_
    rw [← HGE.out]
    exact st01110.out V g8 g12 g25 hB'
   ·obtain ⟨Kb, V, HX, HV, hb, hk⟩ := lay_any W #[.int .i64 0, .int .i64 0, .slice none 0 0, .slice none 0 0, .slice none 0 0, .int .i64 0, .slice none 0 0, .slice none 0 0, .slice none 0 0, .int .i64 0, .int .i64 0, .bool false, .slice none 0 0, .slice none 0 0] 36
    go_simp
    rw [HV.out, ← HX.out]
    have hB' : Below W0.heap.size W0 V := hB.trans (hb.mono hB.size)
    refine hKK.out _ _ (s5_of (HP0.out.below hB')) (fun hHeld => ?_)
    try simp only [Act.put, List.setIfInBounds_toArray]
    try simp only [List.set_cons_succ]
    try simp only [List.set_cons_zero]
    refine wpAnyZ_listed (l' := (bits5 40369083)) (by kernel_rfl) ?_
    rw [← HGE.out]
    exact st01101.out V g8 g12 Kb hB' hk (HX.out ▸ hB.size)
  have st10001 : Hid (∀ (W : World) (n0 n1 : Nat) (avi : Option Addr) (cvi : Nat) (avh : Option Addr) (cvh : Nat) (avs : Option Addr) (cvs : Nat) (Kb : Nat), Below W0.heap.size W0 W → (MdF (fun j => n0 ≤ j ∧ j < n1) W (.agg #[.int .i64 m.n, .int .i64 m.s, .slice avi m.i.length cvi, .slice avh m.h.length cvh, .slice avs m.e.length cvs, .int .i64 m.z]) m) → (W0.heap.size ≤ n0 ∧ W0.heap.size ≤ n1) → n1 ≤ W.heap.size → Bk W Kb 36 #[.int .i64 0, .int .i64 0, .slice none 0 0, .slice none 0 0, .slice none 0 0, .int .i64 0, .slice none 0 0, .slice none 0 0, .slice none 0 0, .int .i64 0, .int .i64 0, .bool false, .slice none 0 0, .slice none 0 0] → W0.heap.size ≤ Kb → (Kb < n0 ∨ n1 ≤ Kb) → G 9 (bits5 40368951) (act5 m d ai ci ah ch ae ce ad cd ap cp N w.heap.size Rb (.pointer (some ⟨Kb, 0, none⟩)) (.agg #[.int .i64 m.n, .int .i64 m.s, .slice avi m.i.length cvi, .slice avh m.h.length cvh, .slice avs m.e.length cvs, .int .i64 m.z]) undef undef undef undef undef undef undef undef) W) := by
   intro W n0 n1 avi cvi avh cvh avs cvs Kb hB hM hn0 hn1 hY hKw hKM
   rw [HGE.out]
   unfold act5
   refine wpAnyZ_ready (rs := [3, 7, 20]) (by kernel_rfl) (by simp) ?_
   refine AllReadyZ.cons (i := 3) rfl (fun K hKK => ?_) (AllReadyZ.cons (i := 7) rfl (fun K hKK => ?_) (AllReadyZ.cons (i := 20) rfl (fun K hKK => ?_) AllReadyZ.nil))
   ·obtain ⟨g8, V, HX, HV, hb, hk⟩ := lay_any W #[] 3
    go_simp
    rw [HV.out, ← HX.out]
    have hB' : Below W0.heap.size W0 V := hB.trans (hb.mono hB.size)
    refine hKK.out _ _ (s5_of (HP0.out.below hB')) (fun hHeld => ?_)
    try simp only [Act.put, List.setIfInBounds_toArray]
    try simp only [List.set_cons_succ]
    try simp only [List.set_cons_zero]
    refine wpAnyZ_listed (l' := (bits5 40368959)) (by kernel_rfl) ?_
    rw [← HGE.out]
    exact st11001.out V n0 n1 avi cvi avh cvh avs cvs g8 Kb hB' (hM.below hb) hn0 (Nat.le_trans hn1 hb.size) (hY.below hb) hKw hKM
   ·obtain ⟨g12, V, HX, HV, hb, hk⟩ := lay_any W #[] 122
    go_simp
    rw [HV.out, ← HX.out]
    have hB' : Below W0.heap.size W0 V := hB.trans (hb.mono hB.size)
    refine hKK.out _ _ (s5_of (HP0.out.below hB')) (fun hHeld => ?_)
    try simp only [Act.put, List.setIfInBounds_toArray]
    try simp only [List.set_cons_succ]
    try simp only [List.set_cons_zero]
    refine wpAnyZ_listed (l' := (bits5 40369079)) (by kernel_rfl) ?_
    rw [← HGE.out]
    exact st10101.out V n0 n1 avi cvi avh cvh avs cvs g12 Kb hB' (hM.below hb) hn0 (Nat.le_trans hn1 hb.size) (hY.below hb) hKw hKM
   ·obtain ⟨g25, V, HX, HV, hb, hk⟩ := lay_any W #[] 126
    go_simp
    rw [HV.out, ← HX.out]
    have hB' : Below W0.heap.size W0 V := hB.trans (hb.mono hB.size)
    refine hKK.out _ _ (s5_of (HP0.out.below hB')) (fun hHeld => ?_)
    try simp only [Act.put, List.setIfInBounds_toArray]
    try simp only [List.set_cons_succ]
    try simp only [List.set_cons_zero]
    refine wpAnyZ_listed (l' := (bits5 41417527)) (by kernel_rfl) ?_
    rw [← HGE.out]
    exact st10011.out V n0 n1 avi cvi avh cvh avs cvs g25 Kb hB' (hM.below hb) hn0 (Nat.le_trans hn1 hb.size) (hY.below hb) hKw hKM
  have st10010 : Hid (∀ (W : World) (n0 n1 : Nat) (avi : Option Addr) (cvi : Nat) (avh : Option Addr) (cvh : Nat) (avs : Option Addr) (cvs : Nat) (g25 : Nat), Below W0.heap.size W0 W → (MdF (fun j => n0 ≤ j ∧ j < n1) W (.agg #[.int .i64 m.n, .int .i64 m.s, .slice avi m.i.length cvi, .slice avh m.h.length cvh, .slice avs m.e.length cvs, .int .i64 m.z]) m) → (W0.heap.size ≤ n0 ∧ W0.heap.size ≤ n1) → n1 ≤ W.heap.size → G 9 (bits5 7863095) (act5 m d ai ci ah ch ae ce ad cd ap cp N w.heap.size Rb undef (.agg #[.int .i64 m.n, .int .i64 m.s, .slice avi m.i.length cvi, .slice avh m.h.length cvh, .slice avs m.e.length cvs, .int .i64 m.z]) undef undef undef undef undef (.slice (some ⟨g25, 0, none⟩) 0 0) undef undef) W) := by
   intro W n0 n1 avi cvi avh cvh avs cvs g25 hB hM hn0 hn1
   rw [HGE.out]
   unfold act5
   refine wpAnyZ_ready (rs := [3, 7, 25]) (by kernel_rfl) (by simp) ?_
   refine AllReadyZ.cons (i := 3) rfl (fun K hKK => ?_) (AllReadyZ.cons (i := 7) rfl (fun K hKK => ?_) (AllReadyZ.cons (i := 25) rfl (fun K hKK => ?_) AllReadyZ.nil))
   ·obtain ⟨g8, V, HX, HV, hb, hk⟩ := lay_any W #[] 3
    go_simp
    rw [HV.out, ← HX.out]
    have hB' : Below W0.heap.size W0 V := hB.trans (hb.mono hB.size)
    refine hKK.out _ _ (s5_of (HP0.out.below hB')) (fun hHeld => ?_)
    try simp only [Act.put, List.setIfInBounds_toArray]
    try simp only [List.set_cons_succ]
    try simp only [List.set_cons_zero]
    refine wpAnyZ_listed (l' := (bits5 7863103)) (by kernel_rfl) ?_
    rw [← HGE.out]
    exact st11010.out V n0 n1 avi cvi avh cvh avs cvs g8 g25 hB' (hM.below hb) hn0 (Nat.le_trans hn1 hb.size)
   ·obtain ⟨g12, V, HX, HV, hb, hk⟩ := lay_any W #[] 122
    go_simp
    rw [HV.out, ← HX.out]
    have hB' : Below W0.heap.size W0 V := hB.trans (hb.mono hB.size)
    refine hKK.out _ _ (s5_of (HP0.out.below hB')) (fun hHeld => ?_)
    try simp only [Act.put, List.setIfInBounds_toArray]
    try simp only [List.set_cons_succ]
    try simp only [List.set_cons_zero]
    refine wpAnyZ_listed (l' := (bits5 7863223)) (by kernel_rfl) ?_
    rw [← HGE.out]
    exact st10110.out V n0 n1 avi cvi avh cvh avs cvs g12 g25 hB' (hM.below hb) hn0 (Nat.le_trans hn1 hb.size)
   ·obtain ⟨Kb, V, HX, HV, hb, hk⟩ := lay_any W #[.int .i64 0, .int .i64 0, .slice none 0 0, .slice none 0 0, .slice none 0 0, .int .i64 0, .slice none 0 0, .slice none 0 0, .slice none 0 0, .int .i64 0, .int .i64 0, .bool false, .slice none 0 0, .slice none 0 0] 36
    go_simp
    rw [HV.out, ← HX.out]
    have hB' : Below W0.heap.size W0 V := hB.trans (hb.mono hB.size)
    refine hKK.out _ _ (s5_of (HP0.out.below hB')) (fun hHeld => ?_)
    try simp only [Act.put, List.setIfInBounds_toArray]
    try simp only [List.set_cons_succ]
    try simp only [List.set_cons_zero]
    refine wpAnyZ_listed (l' := (bits5 41417527)) (by kernel_rfl) ?_
    rw [← HGE.out]
    exact st10011.out V n0 n1 avi cvi avh cvh avs cvs g25 Kb hB' (hM.below hb) hn0 (Nat.le_trans hn1 hb.size) hk (HX.out ▸ hB.size) (.inr (HX.out ▸ hn1))
  have st10100 : Hid (∀ (W : World) (n0 n1 : Nat) (avi : Option Addr) (cvi : Nat) (avh : Option Addr) (cvh : Nat) (avs : Option Addr) (cvs : Nat) (g12 : Nat), Below W0.heap.size W0 W → (MdF (fun j => n0 ≤ j ∧ j < n1) W (.agg #[.int .i64 m.n, .int .i64 m.s, .slice avi m.i.length cvi, .slice avh m.h.length cvh, .slice avs m.e.length cvs, .int .i64 m.z]) m) → (W0.heap.size ≤ n0 ∧ W0.heap.size ≤ n1) → n1 ≤ W.heap.size → G 9 (bits5 6814647) (act5 m d ai ci ah ch ae ce ad cd ap cp N w.heap.size Rb undef (.agg #[.int .i64 m.n, .int .i64 m.s, .slice avi m.i.length cvi, .slice avh m.h.length cvh, .slice avs m.e.length cvs, .int .i64 m.z]) undef undef (.slice (some ⟨g12, 0, none⟩) 0 0) undef undef undef undef undef) W) := by
   intro W n0 n1 avi cvi avh cvh avs cvs g12 hB hM hn0 hn1
   rw [HGE.out]
   unfold act5
   refine wpAnyZ_ready (rs := [3, 20, 25]) (by kernel_rfl) (by simp) ?_
   refine AllReadyZ.cons (i := 3) rfl (fun K hKK => ?_) (AllReadyZ.cons (i := 20) rfl (fun K hKK => ?_) (AllReadyZ.cons (i := 25) rfl (fun K hKK => ?_) AllReadyZ.nil))
   ·obtain ⟨g8, V, HX, HV, hb, hk⟩ := lay_any W #[] 3
    go_simp
    rw [HV.out, ← HX.out]
    have hB' : Below W0.heap.size W0 V := hB.trans (hb.mono hB.size)
    refine hKK.out _ _ (s5_of (HP0.out.below hB')) (fun hHeld => ?_)
    try simp only [Act.put, List.setIfInBounds_toArray]
    try simp only [List.set_cons_succ]
    try simp only [List.set_cons_zero]
    refine wpAnyZ_listed (l' := (bits5 6814655)) (by kernel_rfl) ?_
    rw [← HGE.out]
    exact st11100.out V n0 n1 avi cvi avh cvh avs cvs g8 g12 hB' (hM.below hb) hn0 (Nat.le_trans hn1 hb.size)
   ·obtain ⟨g25, V, HX, HV, hb, hk⟩ := lay_any W #[] 126
    go_simp
    rw [HV.out, ← HX.out]
    have hB' : Below W0.heap.size W0 V := hB.trans (hb.mono hB.size)
    refine hKK.out _ _ (s5_of (HP0.out.below hB')) (fun hHeld => ?_)
    try simp only [Act.put, List.setIfInBounds_toArray]
    try simp only [List.set_cons_succ]
    try simp only [List.set_cons_zero]
    refine wpAnyZ_listed (l' := (bits5 7863223)) (by kernel_rfl) ?_
    rw [← HGE.out]
    exact st10110.out V n0 n1 avi cvi avh cvh avs cvs g12 g25 hB' (hM.below hb) hn0 (Nat.le_trans hn1 hb.size)
   ·obtain ⟨Kb, V, HX, HV, hb, hk⟩ := lay_any W #[.int .i64 0, .int .i64 0, .slice none 0 0, .slice none 0 0, .slice none 0 0, .int .i64 0, .slice none 0 0, .slice none 0 0, .slice none 0 0, .int .i64 0, .int .i64 0, .bool false, .slice none 0 0, .slice none 0 0] 36
    go_simp
    rw [HV.out, ← HX.out]
    have hB' : Below W0.heap.size W0 V := hB.trans (hb.mono hB.size)
    refine hKK.out _ _ (s5_of (HP0.out.below hB')) (fun hHeld => ?_)
    try simp only [Act.put, List.setIfInBounds_toArray]
    try simp only [List.set_cons_succ]
    try simp only [List.set_cons_zero]
    refine wpAnyZ_listed (l' := (bits5 40369079)) (by kernel_rfl) ?_
    rw [← HGE.out]
    exact st10101.out V n0 n1 avi cvi avh cvh avs cvs g12 Kb hB' (hM.below hb) hn0 (Nat.le_trans hn1 hb.size) hk (HX.out ▸ hB.size) (.inr (HX.out ▸ hn1))
  have st11000 : Hid (∀ (W : World) (n0 n1 : Nat) (avi : Option Addr) (cvi : Nat) (avh : Option Addr) (cvh : Nat) (avs : Option Addr) (cvs : Nat) (g8 : Nat), Below W0.heap.size W0 W → (MdF (fun j => n0 ≤ j ∧ j < n1) W (.agg #[.int .i64 m.n, .int .i64 m.s, .slice avi m.i.length cvi, .slice avh m.h.length cvh, .slice avs m.e.length cvs, .int .i64 m.z]) m) → (W0.heap.size ≤ n0 ∧ W0.heap.size ≤ n1) → n1 ≤ W.heap.size → G 9 (bits5 6814527) (act5 m d ai ci ah ch ae ce ad cd ap cp N w.heap.size Rb undef (.agg #[.int .i64 m.n, .int .i64 m.s, .slice avi m.i.length cvi, .slice avh m.h.length cvh, .slice avs m.e.length cvs, .int .i64 m.z]) (.slice (some ⟨g8, 0, none⟩) 0 0) undef undef undef undef undef undef undef) W) := by
   intro W n0 n1 avi cvi avh cvh avs cvs g8 hB hM hn0 hn1
   rw [HGE.out]
   unfold act5
   refine wpAnyZ_ready (rs := [6, 7, 20, 25]) (by kernel_rfl) (by simp) ?_
   refine AllReadyZ.cons (i := 6) rfl (fun K hKK => ?_) (AllReadyZ.cons (i := 7) rfl (fun K hKK => ?_) (AllReadyZ.cons (i := 20) rfl (fun K hKK => ?_) (AllReadyZ.cons (i := 25) rfl (fun K hKK => ?_) AllReadyZ.nil)))
   ·obtain ⟨i0, hi0, hz0, hz1, hz2⟩ := info_parts info3
    refine fresh_pos rfl (.tmp 8) (.tmp 10) 22 rfl 3 i0 (.int .i64 0) 1 8 Tryz.underlying22 hi0 hz0 hz1 hz2 rfl (by decide) g8 rfl (.slice ad d.length cd) d.length (intCells d) rfl (HSD.out W (HB0.out.trans (hB.mono HB0.out.size))) HDL.out (by unfold maxLen; have h9 := HD4.out; omega) (by have h9 := HD4.out; omega) ?_
    intro v' V ho hb
    obtain ⟨ad2, cd2, rfl⟩ := owns_slice ho
    have hD' : V.ownsRow n1 3 1 (.slice ad2 d.length cd2) d.length (intCells d) := owns_mono ho hn1
    have hB' : Below W0.heap.size W0 V := hB.trans (hb.mono hB.size)
    refine hKK.out _ _ (s5_of (HP0.out.below hB')) (fun hHeld => ?_)
    try simp only [Act.put, List.setIfInBounds_toArray]
    try simp only [List.set_cons_succ]
    try simp only [List.set_cons_zero]
    refine wpAnyZ_listed (l' := (bits5 6814591)) (by kernel_rfl) ?_
    rw [← HGE.out]
    exact st21000.out V n0 n1 avi cvi avh cvh avs cvs g8 ad2 cd2 hB' (hM.below hb) hn0 (Nat.le_trans hn1 hb.size) hD'
   ·obtain ⟨g12, V, HX, HV, hb, hk⟩ := lay_any W #[] 122
    go_simp
    rw [HV.out, ← HX.out]
    have hB' : Below W0.heap.size W0 V := hB.trans (hb.mono hB.size)
    refine hKK.out _ _ (s5_of (HP0.out.below hB')) (fun hHeld => ?_)
    try simp only [Act.put, List.setIfInBounds_toArray]
    try simp only [List.set_cons_succ]
    try simp only [List.set_cons_zero]
    refine wpAnyZ_listed (l' := (bits5 6814655)) (by kernel_rfl) ?_
    rw [← HGE.out]
    exact st11100.out V n0 n1 avi cvi avh cvh avs cvs g8 g12 hB' (hM.below hb) hn0 (Nat.le_trans hn1 hb.size)
   ·obtain ⟨g25, V, HX, HV, hb, hk⟩ := lay_any W #[] 126
    go_simp
    rw [HV.out, ← HX.out]
    have hB' : Below W0.heap.size W0 V := hB.trans (hb.mono hB.size)
    refine hKK.out _ _ (s5_of (HP0.out.below hB')) (fun hHeld => ?_)
    try simp only [Act.put, List.setIfInBounds_toArray]
    try simp only [List.set_cons_succ]
    try simp only [List.set_cons_zero]
    refine wpAnyZ_listed (l' := (bits5 7863103)) (by kernel_rfl) ?_
    rw [← HGE.out]
    exact st11010.out V n0 n1 avi cvi avh cvh avs cvs g8 g25 hB' (hM.below hb) hn0 (Nat.le_trans hn1 hb.size)
   ·obtain ⟨Kb, V, HX, HV, hb, hk⟩ := lay_any W #[.int .i64 0, .int .i64 0, .slice none 0 0, .slice none 0 0, .slice none 0 0, .int .i64 0, .slice none 0 0, .slice none 0 0, .slice none 0 0, .int .i64 0, .int .i64 0, .bool false, .slice none 0 0, .slice none 0 0] 36
    go_simp
    rw [HV.out, ← HX.out]
    have hB' : Below W0.heap.size W0 V := hB.trans (hb.mono hB.size)
    refine hKK.out _ _ (s5_of (HP0.out.below hB')) (fun hHeld => ?_)
    try simp only [Act.put, List.setIfInBounds_toArray]
    try simp only [List.set_cons_succ]
    try simp only [List.set_cons_zero]
    refine wpAnyZ_listed (l' := (bits5 40368959)) (by kernel_rfl) ?_
    rw [← HGE.out]
    exact st11001.out V n0 n1 avi cvi avh cvh avs cvs g8 Kb hB' (hM.below hb) hn0 (Nat.le_trans hn1 hb.size) hk (HX.out ▸ hB.size) (.inr (HX.out ▸ hn1))
  have st00001 : Hid (∀ (W : World) (Kb : Nat), Below W0.heap.size W0 W → Bk W Kb 36 #[.int .i64 0, .int .i64 0, .slice none 0 0, .slice none 0 0, .slice none 0 0, .int .i64 0, .slice none 0 0, .slice none 0 0, .slice none 0 0, .int .i64 0, .int .i64 0, .bool false, .slice none 0 0, .slice none 0 0] → W0.heap.size ≤ Kb → G 10 (bits5 40368947) (act5 m d ai ci ah ch ae ce ad cd ap cp N w.heap.size Rb (.pointer (some ⟨Kb, 0, none⟩)) undef undef undef undef undef undef undef undef undef) W) := by
   intro W Kb hB hY hKw
   rw [HGE.out]
   unfold act5
   refine wpAnyZ_ready (rs := [2, 3, 7, 20]) (by kernel_rfl) (by simp) ?_
   refine AllReadyZ.cons (i := 2) rfl (fun K hKK => ?_) (AllReadyZ.cons (i := 3) rfl (fun K hKK => ?_) (AllReadyZ.cons (i := 7) rfl (fun K hKK => ?_) (AllReadyZ.cons (i := 20) rfl (fun K hKK => ?_) AllReadyZ.nil)))
   ·go_simp
    refine (ownM_any _ m W (by have h9 := HMS.out; omega) (by have h9 := HMS.out; omega) (by have h9 := HMS.out; omega) (fun j hj => Nat.le_trans (HML.out j) (by omega)) (HM.out.below (HB0.out.trans (hB.mono HB0.out.size)))).mono ?_
    rintro e V ⟨y0, rfl, hb, hmd⟩
    obtain ⟨avi, cvi, avh, cvh, avs, cvs, rfl⟩ := hmd.form
    obtain ⟨n0, hn0e⟩ : ∃ n, n = W.heap.size := ⟨_, rfl⟩
    obtain ⟨n1, hn1e⟩ : ∃ n, n = V.heap.size := ⟨_, rfl⟩
    rw [← hn0e, ← hn1e] at hmd
    have hn0 : W0.heap.size ≤ n0 ∧ W0.heap.size ≤ n1 := ⟨hn0e ▸ hB.size, hn1e ▸ Nat.le_trans hB.size hb.size⟩
    have hn1 : n1 ≤ V.heap.size := by omega
    have hKM' : Kb < n0 ∨ n1 ≤ Kb := .inl (hn0e ▸ hY.lt)
    try go_simp
    have hB' : Below W0.heap.size W0 V := hB.trans (hb.mono hB.size)
    refine hKK.out _ _ (s5_of (HP0.out.below hB')) (fun hHeld => ?_)
    try simp only [Act.put, List.setIfInBounds_toArray]
    try simp only [List.set_cons_succ]
    try simp only [List.set_cons_zero]
    refine wpAnyZ_listed (l' := (bits5 40368951)) (by kernel_rfl) ?_
    rw [← HGE.out]
    exact st10001.out V n0 n1 avi cvi avh cvh avs cvs Kb hB' hmd hn0 hn1 (hY.below hb) hKw hKM'
   ·obtain ⟨g8, V, HX, HV, hb, hk⟩ := lay_any W #[] 3
    go_simp
    rw [HV.out, ← HX.out]
    have hB' : Below W0.heap.size W0 V := hB.trans (hb.mono hB.size)
    refine hKK.out _ _ (s5_of (HP0.out.below hB')) (fun hHeld => ?_)
    try simp only [Act.put, List.setIfInBounds_toArray]
    try simp only [List.set_cons_succ]
    try simp only [List.set_cons_zero]
    refine wpAnyZ_listed (l' := (bits5 40368955)) (by kernel_rfl) ?_
    rw [← HGE.out]
    exact st01001.out V g8 Kb hB' (hY.below hb) hKw
   ·obtain ⟨g12, V, HX, HV, hb, hk⟩ := lay_any W #[] 122
    go_simp
    rw [HV.out, ← HX.out]
    have hB' : Below W0.heap.size W0 V := hB.trans (hb.mono hB.size)
    refine hKK.out _ _ (s5_of (HP0.out.below hB')) (fun hHeld => ?_)
    try simp only [Act.put, List.setIfInBounds_toArray]
    try simp only [List.set_cons_succ]
    try simp only [List.set_cons_zero]
    refine wpAnyZ_listed (l' := (bits5 40369075)) (by kernel_rfl) ?_
    rw [← HGE.out]
    exact st00101.out V g12 Kb hB' (hY.below hb) hKw
   ·obtain ⟨g25, V, HX, HV, hb, hk⟩ := lay_any W #[] 126
    go_simp
    rw [HV.out, ← HX.out]
    have hB' : Below W0.heap.size W0 V := hB.trans (hb.mono hB.size)
    refine hKK.out _ _ (s5_of (HP0.out.below hB')) (fun hHeld => ?_)
    try simp only [Act.put, List.setIfInBounds_toArray]
    try simp only [List.set_cons_succ]
    try simp only [List.set_cons_zero]
    refine wpAnyZ_listed (l' := (bits5 41417523)) (by kernel_rfl) ?_
    rw [← HGE.out]
    exact st00011.out V g25 Kb hB' (hY.below hb) hKw
  have st00010 : Hid (∀ (W : World) (g25 : Nat), Below W0.heap.size W0 W → G 10 (bits5 7863091) (act5 m d ai ci ah ch ae ce ad cd ap cp N w.heap.size Rb undef undef undef undef undef undef undef (.slice (some ⟨g25, 0, none⟩) 0 0) undef undef) W) := by
   intro W g25 hB
   rw [HGE.out]
   unfold act5
   refine wpAnyZ_ready (rs := [2, 3, 7, 25]) (by kernel_rfl) (by simp) ?_
   refine AllReadyZ.cons (i := 2) rfl (fun K hKK => ?_) (AllReadyZ.cons (i := 3) rfl (fun K hKK => ?_) (AllReadyZ.cons (i := 7) rfl (fun K hKK => ?_) (AllReadyZ.cons (i := 25) rfl (fun K hKK => ?_) AllReadyZ.nil)))
   ·go_simp
    refine (ownM_any _ m W (by have h9 := HMS.out; omega) (by have h9 := HMS.out; omega) (by have h9 := HMS.out; omega) (fun j hj => Nat.le_trans (HML.out j) (by omega)) (HM.out.below (HB0.out.trans (hB.mono HB0.out.size)))).mono ?_
    rintro e V ⟨y0, rfl, hb, hmd⟩
    obtain ⟨avi, cvi, avh, cvh, avs, cvs, rfl⟩ := hmd.form
    obtain ⟨n0, hn0e⟩ : ∃ n, n = W.heap.size := ⟨_, rfl⟩
    obtain ⟨n1, hn1e⟩ : ∃ n, n = V.heap.size := ⟨_, rfl⟩
    rw [← hn0e, ← hn1e] at hmd
    have hn0 : W0.heap.size ≤ n0 ∧ W0.heap.size ≤ n1 := ⟨hn0e ▸ hB.size, hn1e ▸ Nat.le_trans hB.size hb.size⟩
    have hn1 : n1 ≤ V.heap.size := by omega
    try go_simp
    have hB' : Below W0.heap.size W0 V := hB.trans (hb.mono hB.size)
    refine hKK.out _ _ (s5_of (HP0.out.below hB')) (fun hHeld => ?_)
    try simp only [Act.put, List.setIfInBounds_toArray]
    try simp only [List.set_cons_succ]
    try simp only [List.set_cons_zero]
    refine wpAnyZ_listed (l' := (bits5 7863095)) (by kernel_rfl) ?_
    rw [← HGE.out]
    exact st10010.out V n0 n1 avi cvi avh cvh avs cvs g25 hB' hmd hn0 hn1
   ·obtain ⟨g8, V, HX, HV, hb, hk⟩ := lay_any W #[] 3
    go_simp
    rw [HV.out, ← HX.out]
    have hB' : Below W0.heap.size W0 V := hB.trans (hb.mono hB.size)
    refine hKK.out _ _ (s5_of (HP0.out.below hB')) (fun hHeld => ?_)
    try simp only [Act.put, List.setIfInBounds_toArray]
    try simp only [List.set_cons_succ]
    try simp only [List.set_cons_zero]
    refine wpAnyZ_listed (l' := (bits5 7863099)) (by kernel_rfl) ?_
    rw [← HGE.out]
    exact st01010.out V g8 g25 hB'
   ·obtain ⟨g12, V, HX, HV, hb, hk⟩ := lay_any W #[] 122
    go_simp
    rw [HV.out, ← HX.out]
    have hB' : Below W0.heap.size W0 V := hB.trans (hb.mono hB.size)
    refine hKK.out _ _ (s5_of (HP0.out.below hB')) (fun hHeld => ?_)
    try simp only [Act.put, List.setIfInBounds_toArray]
    try simp only [List.set_cons_succ]
    try simp only [List.set_cons_zero]
    refine wpAnyZ_listed (l' := (bits5 7863219)) (by kernel_rfl) ?_
    rw [← HGE.out]
    exact st00110.out V g12 g25 hB'
   ·obtain ⟨Kb, V, HX, HV, hb, hk⟩ := lay_any W #[.int .i64 0, .int .i64 0, .slice none 0 0, .slice none 0 0, .slice none 0 0, .int .i64 0, .slice none 0 0, .slice none 0 0, .slice none 0 0, .int .i64 0, .int .i64 0, .bool false, .slice none 0 0, .slice none 0 0] 36
    go_simp
    rw [HV.out, ← HX.out]
    have hB' : Below W0.heap.size W0 V := hB.trans (hb.mono hB.size)
    refine hKK.out _ _ (s5_of (HP0.out.below hB')) (fun hHeld => ?_)
    try simp only [Act.put, List.setIfInBounds_toArray]
    try simp only [List.set_cons_succ]
    try simp only [List.set_cons_zero]
    refine wpAnyZ_listed (l' := (bits5 41417523)) (by kernel_rfl) ?_
    rw [← HGE.out]
    exact st00011.out V g25 Kb hB' hk (HX.out ▸ hB.size)
  have st00100 : Hid (∀ (W : World) (g12 : Nat), Below W0.heap.size W0 W → G 10 (bits5 6814643) (act5 m d ai ci ah ch ae ce ad cd ap cp N w.heap.size Rb undef undef undef undef (.slice (some ⟨g12, 0, none⟩) 0 0) undef undef undef undef undef) W) := by
   intro W g12 hB
   rw [HGE.out]
   unfold act5
   refine wpAnyZ_ready (rs := [2, 3, 20, 25]) (by kernel_rfl) (by simp) ?_
   refine AllReadyZ.cons (i := 2) rfl (fun K hKK => ?_) (AllReadyZ.cons (i := 3) rfl (fun K hKK => ?_) (AllReadyZ.cons (i := 20) rfl (fun K hKK => ?_) (AllReadyZ.cons (i := 25) rfl (fun K hKK => ?_) AllReadyZ.nil)))
   ·go_simp
    refine (ownM_any _ m W (by have h9 := HMS.out; omega) (by have h9 := HMS.out; omega) (by have h9 := HMS.out; omega) (fun j hj => Nat.le_trans (HML.out j) (by omega)) (HM.out.below (HB0.out.trans (hB.mono HB0.out.size)))).mono ?_
    rintro e V ⟨y0, rfl, hb, hmd⟩
    obtain ⟨avi, cvi, avh, cvh, avs, cvs, rfl⟩ := hmd.form
    obtain ⟨n0, hn0e⟩ : ∃ n, n = W.heap.size := ⟨_, rfl⟩
    obtain ⟨n1, hn1e⟩ : ∃ n, n = V.heap.size := ⟨_, rfl⟩
    rw [← hn0e, ← hn1e] at hmd
    have hn0 : W0.heap.size ≤ n0 ∧ W0.heap.size ≤ n1 := ⟨hn0e ▸ hB.size, hn1e ▸ Nat.le_trans hB.size hb.size⟩
    have hn1 : n1 ≤ V.heap.size := by omega
    try go_simp
    have hB' : Below W0.heap.size W0 V := hB.trans (hb.mono hB.size)
    refine hKK.out _ _ (s5_of (HP0.out.below hB')) (fun hHeld => ?_)
    try simp only [Act.put, List.setIfInBounds_toArray]
    try simp only [List.set_cons_succ]
    try simp only [List.set_cons_zero]
    refine wpAnyZ_listed (l' := (bits5 6814647)) (by kernel_rfl) ?_
    rw [← HGE.out]
    exact st10100.out V n0 n1 avi cvi avh cvh avs cvs g12 hB' hmd hn0 hn1
   ·obtain ⟨g8, V, HX, HV, hb, hk⟩ := lay_any W #[] 3
    go_simp
    rw [HV.out, ← HX.out]
    have hB' : Below W0.heap.size W0 V := hB.trans (hb.mono hB.size)
    refine hKK.out _ _ (s5_of (HP0.out.below hB')) (fun hHeld => ?_)
    try simp only [Act.put, List.setIfInBounds_toArray]
    try simp only [List.set_cons_succ]
    try simp only [List.set_cons_zero]
    refine wpAnyZ_listed (l' := (bits5 6814651)) (by kernel_rfl) ?_
    rw [← HGE.out]
    exact st01100.out V g8 g12 hB'
   ·obtain ⟨g25, V, HX, HV, hb, hk⟩ := lay_any W #[] 126
    go_simp
    rw [HV.out, ← HX.out]
    have hB' : Below W0.heap.size W0 V := hB.trans (hb.mono hB.size)
    refine hKK.out _ _ (s5_of (HP0.out.below hB')) (fun hHeld => ?_)
    try simp only [Act.put, List.setIfInBounds_toArray]
    try simp only [List.set_cons_succ]
    try simp only [List.set_cons_zero]
    refine wpAnyZ_listed (l' := (bits5 7863219)) (by kernel_rfl) ?_
    rw [← HGE.out]
    exact st00110.out V g12 g25 hB'
   ·obtain ⟨Kb, V, HX, HV, hb, hk⟩ := lay_any W #[.int .i64 0, .int .i64 0, .slice none 0 0, .slice none 0 0, .slice none 0 0, .int .i64 0, .slice none 0 0, .slice none 0 0, .slice none 0 0, .int .i64 0, .int .i64 0, .bool false, .slice none 0 0, .slice none 0 0] 36
    go_simp
    rw [HV.out, ← HX.out]
    have hB' : Below W0.heap.size W0 V := hB.trans (hb.mono hB.size)
    refine hKK.out _ _ (s5_of (HP0.out.below hB')) (fun hHeld => ?_)
    try simp only [Act.put, List.setIfInBounds_toArray]
    try simp only [List.set_cons_succ]
    try simp only [List.set_cons_zero]
    refine wpAnyZ_listed (l' := (bits5 40369075)) (by kernel_rfl) ?_
    rw [← HGE.out]
    exact st00101.out V g12 Kb hB' hk (HX.out ▸ hB.size)
  have st01000 : Hid (∀ (W : World) (g8 : Nat), Below W0.heap.size W0 W → G 10 (bits5 6814523) (act5 m d ai ci ah ch ae ce ad cd ap cp N w.heap.size Rb undef undef (.slice (some ⟨g8, 0, none⟩) 0 0) undef undef undef undef undef undef undef) W) := by
   intro W g8 hB
   rw [HGE.out]
   unfold act5
   refine wpAnyZ_ready (rs := [2, 7, 20, 25]) (by kernel_rfl) (by simp) ?_
   refine AllReadyZ.cons (i := 2) rfl (fun K hKK => ?_) (AllReadyZ.cons (i := 7) rfl (fun K hKK => ?_) (AllReadyZ.cons (i := 20) rfl (fun K hKK => ?_) (AllReadyZ.cons (i := 25) rfl (fun K hKK => ?_) AllReadyZ.nil)))
   ·go_simp
    refine (ownM_any _ m W (by have h9 := HMS.out; omega) (by have h9 := HMS.out; omega) (by have h9 := HMS.out; omega) (fun j hj => Nat.le_trans (HML.out j) (by omega)) (HM.out.below (HB0.out.trans (hB.mono HB0.out.size)))).mono ?_
    rintro e V ⟨y0, rfl, hb, hmd⟩
    obtain ⟨avi, cvi, avh, cvh, avs, cvs, rfl⟩ := hmd.form
    obtain ⟨n0, hn0e⟩ : ∃ n, n = W.heap.size := ⟨_, rfl⟩
    obtain ⟨n1, hn1e⟩ : ∃ n, n = V.heap.size := ⟨_, rfl⟩
    rw [← hn0e, ← hn1e] at hmd
    have hn0 : W0.heap.size ≤ n0 ∧ W0.heap.size ≤ n1 := ⟨hn0e ▸ hB.size, hn1e ▸ Nat.le_trans hB.size hb.size⟩
    have hn1 : n1 ≤ V.heap.size := by omega
    try go_simp
    have hB' : Below W0.heap.size W0 V := hB.trans (hb.mono hB.size)
    refine hKK.out _ _ (s5_of (HP0.out.below hB')) (fun hHeld => ?_)
    try simp only [Act.put, List.setIfInBounds_toArray]
    try simp only [List.set_cons_succ]
    try simp only [List.set_cons_zero]
    refine wpAnyZ_listed (l' := (bits5 6814527)) (by kernel_rfl) ?_
    rw [← HGE.out]
    exact st11000.out V n0 n1 avi cvi avh cvh avs cvs g8 hB' hmd hn0 hn1
   ·obtain ⟨g12, V, HX, HV, hb, hk⟩ := lay_any W #[] 122
    go_simp
    rw [HV.out, ← HX.out]
    have hB' : Below W0.heap.size W0 V := hB.trans (hb.mono hB.size)
    refine hKK.out _ _ (s5_of (HP0.out.below hB')) (fun hHeld => ?_)
    try simp only [Act.put, List.setIfInBounds_toArray]
    try simp only [List.set_cons_succ]
    try simp only [List.set_cons_zero]
    refine wpAnyZ_listed (l' := (bits5 6814651)) (by kernel_rfl) ?_
    rw [← HGE.out]
    exact st01100.out V g8 g12 hB'
   ·obtain ⟨g25, V, HX, HV, hb, hk⟩ := lay_any W #[] 126
    go_simp
    rw [HV.out, ← HX.out]
    have hB' : Below W0.heap.size W0 V := hB.trans (hb.mono hB.size)
    refine hKK.out _ _ (s5_of (HP0.out.below hB')) (fun hHeld => ?_)
    try simp only [Act.put, List.setIfInBounds_toArray]
    try simp only [List.set_cons_succ]
    try simp only [List.set_cons_zero]
    refine wpAnyZ_listed (l' := (bits5 7863099)) (by kernel_rfl) ?_
    rw [← HGE.out]
    exact st01010.out V g8 g25 hB'
   ·obtain ⟨Kb, V, HX, HV, hb, hk⟩ := lay_any W #[.int .i64 0, .int .i64 0, .slice none 0 0, .slice none 0 0, .slice none 0 0, .int .i64 0, .slice none 0 0, .slice none 0 0, .slice none 0 0, .int .i64 0, .int .i64 0, .bool false, .slice none 0 0, .slice none 0 0] 36
    go_simp
    rw [HV.out, ← HX.out]
    have hB' : Below W0.heap.size W0 V := hB.trans (hb.mono hB.size)
    refine hKK.out _ _ (s5_of (HP0.out.below hB')) (fun hHeld => ?_)
    try simp only [Act.put, List.setIfInBounds_toArray]
    try simp only [List.set_cons_succ]
    try simp only [List.set_cons_zero]
    refine wpAnyZ_listed (l' := (bits5 40368955)) (by kernel_rfl) ?_
    rw [← HGE.out]
    exact st01001.out V g8 Kb hB' hk (HX.out ▸ hB.size)
  have st10000 : Hid (∀ (W : World) (n0 n1 : Nat) (avi : Option Addr) (cvi : Nat) (avh : Option Addr) (cvh : Nat) (avs : Option Addr) (cvs : Nat), Below W0.heap.size W0 W → (MdF (fun j => n0 ≤ j ∧ j < n1) W (.agg #[.int .i64 m.n, .int .i64 m.s, .slice avi m.i.length cvi, .slice avh m.h.length cvh, .slice avs m.e.length cvs, .int .i64 m.z]) m) → (W0.heap.size ≤ n0 ∧ W0.heap.size ≤ n1) → n1 ≤ W.heap.size → G 10 (bits5 6814519) (act5 m d ai ci ah ch ae ce ad cd ap cp N w.heap.size Rb undef (.agg #[.int .i64 m.n, .int .i64 m.s, .slice avi m.i.length cvi, .slice avh m.h.length cvh, .slice avs m.e.length cvs, .int .i64 m.z]) undef undef undef undef undef undef undef undef) W) := by
   intro W n0 n1 avi cvi avh cvh avs cvs hB hM hn0 hn1
   rw [HGE.out]
   unfold act5
   refine wpAnyZ_ready (rs := [3, 7, 20, 25]) (by kernel_rfl) (by simp) ?_
   refine AllReadyZ.cons (i := 3) rfl (fun K hKK => ?_) (AllReadyZ.cons (i := 7) rfl (fun K hKK => ?_) (AllReadyZ.cons (i := 20) rfl (fun K hKK => ?_) (AllReadyZ.cons (i := 25) rfl (fun K hKK => ?_) AllReadyZ.nil)))
   ·obtain ⟨g8, V, HX, HV, hb, hk⟩ := lay_any W #[] 3
    go_simp
    rw [HV.out, ← HX.out]
    have hB' : Below W0.heap.size W0 V := hB.trans (hb.mono hB.size)
    refine hKK.out _ _ (s5_of (HP0.out.below hB')) (fun hHeld => ?_)
    try simp only [Act.put, List.setIfInBounds_toArray]
    try simp only [List.set_cons_succ]
    try simp only [List.set_cons_zero]
    refine wpAnyZ_listed (l' := (bits5 6814527)) (by kernel_rfl) ?_
    rw [← HGE.out]
    exact st11000.out V n0 n1 avi cvi avh cvh avs cvs g8 hB' (hM.below hb) hn0 (Nat.le_trans hn1 hb.size)
   ·obtain ⟨g12, V, HX, HV, hb, hk⟩ := lay_any W #[] 122
    go_simp
    rw [HV.out, ← HX.out]
    have hB' : Below W0.heap.size W0 V := hB.trans (hb.mono hB.size)
    refine hKK.out _ _ (s5_of (HP0.out.below hB')) (fun hHeld => ?_)
    try simp only [Act.put, List.setIfInBounds_toArray]
    try simp only [List.set_cons_succ]
    try simp only [List.set_cons_zero]
    refine wpAnyZ_listed (l' := (bits5 6814647)) (by kernel_rfl) ?_
    rw [← HGE.out]
    exact st10100.out V n0 n1 avi cvi avh cvh avs cvs g12 hB' (hM.below hb) hn0 (Nat.le_trans hn1 hb.size)
   ·obtain ⟨g25, V, HX, HV, hb, hk⟩ := lay_any W #[] 126
    go_simp
    rw [HV.out, ← HX.out]
    have hB' : Below W0.heap.size W0 V := hB.trans (hb.mono hB.size)
    refine hKK.out _ _ (s5_of (HP0.out.below hB')) (fun hHeld => ?_)
    try simp only [Act.put, List.setIfInBounds_toArray]
    try simp only [List.set_cons_succ]
    try simp only [List.set_cons_zero]
    refine wpAnyZ_listed (l' := (bits5 7863095)) (by kernel_rfl) ?_
    rw [← HGE.out]
    exact st10010.out V n0 n1 avi cvi avh cvh avs cvs g25 hB' (hM.below hb) hn0 (Nat.le_trans hn1 hb.size)
   ·obtain ⟨Kb, V, HX, HV, hb, hk⟩ := lay_any W #[.int .i64 0, .int .i64 0, .slice none 0 0, .slice none 0 0, .slice none 0 0, .int .i64 0, .slice none 0 0, .slice none 0 0, .slice none 0 0, .int .i64 0, .int .i64 0, .bool false, .slice none 0 0, .slice none 0 0] 36
    go_simp
    rw [HV.out, ← HX.out]
    have hB' : Below W0.heap.size W0 V := hB.trans (hb.mono hB.size)
    refine hKK.out _ _ (s5_of (HP0.out.below hB')) (fun hHeld => ?_)
    try simp only [Act.put, List.setIfInBounds_toArray]
    try simp only [List.set_cons_succ]
    try simp only [List.set_cons_zero]
    refine wpAnyZ_listed (l' := (bits5 40368951)) (by kernel_rfl) ?_
    rw [← HGE.out]
    exact st10001.out V n0 n1 avi cvi avh cvh avs cvs Kb hB' (hM.below hb) hn0 (Nat.le_trans hn1 hb.size) hk (HX.out ▸ hB.size) (.inr (HX.out ▸ hn1))
  have st00000 : Hid (∀ (W : World) , Below W0.heap.size W0 W → G 11 (bits5 6814515) (act5 m d ai ci ah ch ae ce ad cd ap cp N w.heap.size Rb undef undef undef undef undef undef undef undef undef undef) W) := by
   intro W  hB
   rw [HGE.out]
   unfold act5
   refine wpAnyZ_ready (rs := [2, 3, 7, 20, 25]) (by kernel_rfl) (by simp) ?_
   refine AllReadyZ.cons (i := 2) rfl (fun K hKK => ?_) (AllReadyZ.cons (i := 3) rfl (fun K hKK => ?_) (AllReadyZ.cons (i := 7) rfl (fun K hKK => ?_) (AllReadyZ.cons (i := 20) rfl (fun K hKK => ?_) (AllReadyZ.cons (i := 25) rfl (fun K hKK => ?_) AllReadyZ.nil))))
   ·go_simp
    refine (ownM_any _ m W (by have h9 := HMS.out; omega) (by have h9 := HMS.out; omega) (by have h9 := HMS.out; omega) (fun j hj => Nat.le_trans (HML.out j) (by omega)) (HM.out.below (HB0.out.trans (hB.mono HB0.out.size)))).mono ?_
    rintro e V ⟨y0, rfl, hb, hmd⟩
    obtain ⟨avi, cvi, avh, cvh, avs, cvs, rfl⟩ := hmd.form
    obtain ⟨n0, hn0e⟩ : ∃ n, n = W.heap.size := ⟨_, rfl⟩
    obtain ⟨n1, hn1e⟩ : ∃ n, n = V.heap.size := ⟨_, rfl⟩
    rw [← hn0e, ← hn1e] at hmd
    have hn0 : W0.heap.size ≤ n0 ∧ W0.heap.size ≤ n1 := ⟨hn0e ▸ hB.size, hn1e ▸ Nat.le_trans hB.size hb.size⟩
    have hn1 : n1 ≤ V.heap.size := by omega
    try go_simp
    have hB' : Below W0.heap.size W0 V := hB.trans (hb.mono hB.size)
    refine hKK.out _ _ (s5_of (HP0.out.below hB')) (fun hHeld => ?_)
    try simp only [Act.put, List.setIfInBounds_toArray]
    try simp only [List.set_cons_succ]
    try simp only [List.set_cons_zero]
    refine wpAnyZ_listed (l' := (bits5 6814519)) (by kernel_rfl) ?_
    rw [← HGE.out]
    exact st10000.out V n0 n1 avi cvi avh cvh avs cvs hB' hmd hn0 hn1
   ·obtain ⟨g8, V, HX, HV, hb, hk⟩ := lay_any W #[] 3
    go_simp
    rw [HV.out, ← HX.out]
    have hB' : Below W0.heap.size W0 V := hB.trans (hb.mono hB.size)
    refine hKK.out _ _ (s5_of (HP0.out.below hB')) (fun hHeld => ?_)
    try simp only [Act.put, List.setIfInBounds_toArray]
    try simp only [List.set_cons_succ]
    try simp only [List.set_cons_zero]
    refine wpAnyZ_listed (l' := (bits5 6814523)) (by kernel_rfl) ?_
    rw [← HGE.out]
    exact st01000.out V g8 hB'
   ·obtain ⟨g12, V, HX, HV, hb, hk⟩ := lay_any W #[] 122
    go_simp
    rw [HV.out, ← HX.out]
    have hB' : Below W0.heap.size W0 V := hB.trans (hb.mono hB.size)
    refine hKK.out _ _ (s5_of (HP0.out.below hB')) (fun hHeld => ?_)
    try simp only [Act.put, List.setIfInBounds_toArray]
    try simp only [List.set_cons_succ]
    try simp only [List.set_cons_zero]
    refine wpAnyZ_listed (l' := (bits5 6814643)) (by kernel_rfl) ?_
    rw [← HGE.out]
    exact st00100.out V g12 hB'
   ·obtain ⟨g25, V, HX, HV, hb, hk⟩ := lay_any W #[] 126
    go_simp
    rw [HV.out, ← HX.out]
    have hB' : Below W0.heap.size W0 V := hB.trans (hb.mono hB.size)
    refine hKK.out _ _ (s5_of (HP0.out.below hB')) (fun hHeld => ?_)
    try simp only [Act.put, List.setIfInBounds_toArray]
    try simp only [List.set_cons_succ]
    try simp only [List.set_cons_zero]
    refine wpAnyZ_listed (l' := (bits5 7863091)) (by kernel_rfl) ?_
    rw [← HGE.out]
    exact st00010.out V g25 hB'
   ·obtain ⟨Kb, V, HX, HV, hb, hk⟩ := lay_any W #[.int .i64 0, .int .i64 0, .slice none 0 0, .slice none 0 0, .slice none 0 0, .int .i64 0, .slice none 0 0, .slice none 0 0, .slice none 0 0, .int .i64 0, .int .i64 0, .bool false, .slice none 0 0, .slice none 0 0] 36
    go_simp
    rw [HV.out, ← HX.out]
    have hB' : Below W0.heap.size W0 V := hB.trans (hb.mono hB.size)
    refine hKK.out _ _ (s5_of (HP0.out.below hB')) (fun hHeld => ?_)
    try simp only [Act.put, List.setIfInBounds_toArray]
    try simp only [List.set_cons_succ]
    try simp only [List.set_cons_zero]
    refine wpAnyZ_listed (l' := (bits5 40368947)) (by kernel_rfl) ?_
    rw [← HGE.out]
    exact st00001.out V Kb hB' hk (HX.out ▸ hB.size)
  exact st00000.out _ hBd
 case rest =>
  obtain ⟨Kb, rfl, n0, n1, avi, cvi, avh, cvh, avs, cvs, ad2, cd2, a12, asu, csu, a25, hn0, hM, hD, hK, hB, hKw, hKM, hsu⟩ := hcut
  obtain ⟨w5, rfl⟩ : ∃ w5, w5 = wc := ⟨wc, rfl⟩
  have HMD := hidKOw hM
  have HDD := hidKOw hD
  have HK5 := hidKOw hK
  have HP5 := hidKOw (HP0.out.below hB)
  have HR5 := hidKOw (HR0.out.below hB)
  have HB5 := hidKOw (HB0.out.trans (hB.mono HB0.out.size))
  have hn1w : n1 ≤ w5.heap.size := own_base HDD.out HDL.out
  have hWw : w.heap.size ≤ W0.heap.size := HB0.out.size
  have hKl : Kb < w5.heap.size := HK5.out.lt
  clear hM hD hK hB HP0 HR0 HB0
  have hps := ps_form (newPs_len m N) HPS.out
  have HG0 : Hid (PsG w5.heap.size w5 (.slice none 0 0) 0 (newPs m N)) := PsG.nil _ _ _
  obtain ⟨B, hBe⟩ : ∃ B, B = w5.heap.size := ⟨_, rfl⟩
  rw [← hBe] at HG0
  have HBE : Hid (B = w5.heap.size) := hBe
  have hBw : w.heap.size < B := by omega
  have hKB : Kb < B := by omega
  have hRB : Rb < B := by omega
  clear hBe
  go_wp2
  go_loopw [4] (fun i wr => ∃ (k : Nat) (vp : Value), k ≤ N ∧ i = .int .i64 k ∧ Hid (PsG B wr vp k (newPs m N)) ∧ Hid (Bk wr Kb 36 #[.int .i64 m.n, .int .i64 m.s, .slice avi m.i.length cvi, .slice avh m.h.length cvh, .slice avs m.e.length cvs, .int .i64 m.z, .slice ad2 d.length cd2, vp, .slice a12 0 0, .int .i64 6, .int .i64 (-1), .bool false, .slice asu 0 csu, .slice a25 0 0]) ∧ Hid (Turns (fun j => j = Kb) w5 wr)) (fun i _ => N - (intOf i).toNat)
  case atStart => exact ⟨0, _, Nat.zero_le _, rfl, HG0.out, HK5.out, Turns.refl _ _⟩
  case round =>
   clear HG0
   obtain ⟨k, vp, hk, rfl, HGr, HKr, HTr⟩ := hrel
   have HPr := hidKOw (HP5.out.turns HTr.out (fun e => by omega))
   have HBr := hidKOw (HB5.out.trans (HTr.out.to_below (fun j hj => by omega) HB5.out.size))
   have HSr : Hid (B ≤ wr.heap.size) := HBE.out ▸ HTr.out.size
   have q7 := HPr.out.cell (i := 7) rfl
   obtain ⟨cs9, hrow9⟩ := HGr.out.row
   obtain ⟨aq, cq, rfl⟩ := owns_slice hrow9
   clear hrow9
   by_cases hkN : k < N
   case pos =>
    have hkd : decide ((k : Int) < (N : Int)) = true := by simpa using hkN
    obtain ⟨b, off, rfl, hb, hcl⟩ := hps.resolve_left (by omega)
    obtain ⟨u1, u4, u5, u6, f0, f1, f2, f3, f4, f5, f6, d1, d4, d5, d6⟩ := partsD_in (l := newPs m N) (fun j hj => by
     obtain ⟨u, hu, hd9⟩ := hcl j hj
     exact ⟨u, hu, hd9⟩) hkN
    have HIP : Hid (∀ W, Below w.heap.size w W → IsPart W (.agg #[.int .i64 (paAt (newPs m N) k).n, u1, .int .i64 (paAt (newPs m N) k).st.q, .int .i64 (paAt (newPs m N) k).st.d, u4, u5, u6]) (paAt (newPs m N) k)) := fun W hW => ⟨u1, u4, u5, u6, rfl, d1.under hW, d4.under hW, d5.under hW, d6.under hW⟩
    have HWT : Hid ((paAt (newPs m N) k).wt ≤ 1048577) := by (show (paAt (newPs m N) k).wt ≤ 1048577); rw [newPs_at m hkN]; exact Nat.le_trans (newP_wt HMS.out.2.2) (by omega)
    obtain ⟨a1, e1', rfl, _⟩ := IsD.len d1
    obtain ⟨a4, e4', rfl, _⟩ := IsD.len d4
    obtain ⟨a5, e5', rfl, _⟩ := IsD.len d5
    obtain ⟨a6, e6', rfl, _⟩ := IsD.len d6
    generalize hq : paAt (newPs m N) k = q at f0 f1 f2 f3 f4 f5 f6 HIP HWT
    have HQ := hidKOw hq.symm
    clear hcl d1 d4 d5 d6 hq
    go_upto_region 5 with fail
    clear q7
    have HKX := hidKOw HKr.out.drew
    have HPX := hidKOw HPr.out.drew
    have HBX := hidKOw HBr.out.drew
    refine wp_region_z 11 (fun W => W.cell? ⟨Kb, 7, none⟩ = some (.slice aq k cq) ∧ W.cell? ⟨w.heap.size, 7, none⟩ = some (.slice (some ⟨b, off, none⟩) N cp) ∧ W.cell? ⟨b, off + k * 7, none⟩ = some (.int .i64 q.n) ∧ W.cell? ⟨b, off + k * 7 + 1, none⟩ = some (.slice a1 q.st.r.length e1') ∧ W.cell? ⟨b, off + k * 7 + 2, none⟩ = some (.int .i64 q.st.q) ∧ W.cell? ⟨b, off + k * 7 + 3, none⟩ = some (.int .i64 q.st.d) ∧ W.cell? ⟨b, off + k * 7 + 4, none⟩ = some (.slice a4 q.p.length e4') ∧ W.cell? ⟨b, off + k * 7 + 5, none⟩ = some (.slice a5 q.t.length e5') ∧ W.cell? ⟨b, off + k * 7 + 6, none⟩ = some (.slice a6 q.a.length e6')) (by kernel_rfl) ⟨HKX.out.cell (i := 7) rfl, HPX.out.cell (i := 7) rfl, (HBX.out.cell (p := ⟨b, _, none⟩) hb).trans f0, (HBX.out.cell (p := ⟨b, _, none⟩) hb).trans f1, (HBX.out.cell (p := ⟨b, _, none⟩) hb).trans f2, (HBX.out.cell (p := ⟨b, _, none⟩) hb).trans f3, (HBX.out.cell (p := ⟨b, _, none⟩) hb).trans f4, (HBX.out.cell (p := ⟨b, _, none⟩) hb).trans f5, (HBX.out.cell (p := ⟨b, _, none⟩) hb).trans f6⟩ (fun hHeld => ?_)
    obtain ⟨wd, hwd⟩ : ∃ wd, wr.drew = wd := ⟨_, rfl⟩
    have HTX : Hid (Turns (fun j => j = Kb) w5 wd) := HTr.out.trans (S := fun j => j = Kb) (hwd ▸ Turns.of_below (Below.refl _ wr).drew)
    have HGX : Hid (PsG B wd (.slice aq k cq) k (newPs m N)) := HGr.out.below (hwd ▸ (Below.refl _ wr).drew)
    have HSX : Hid (B ≤ wd.heap.size) := hwd ▸ HSr.out
    rw [hwd] at hHeld HKX HPX HBX
    rw [hwd]
    clear hwd HKr HPr HGr HBr HSr HTr
    refine tzKOw 0 { dst := some 37, op := Op.fieldAddr 36 (Operand.tmp 3) 2, type := 0, pos := _, after := _, guard := none } (.pointer (some ⟨Kb, 7, none⟩)) ?_
    try simp only [Act.put, List.setIfInBounds_toArray, List.set_cons_zero, List.set_cons_succ]
    refine tzKOw 1 { dst := some 38, op := Op.load 32 (Operand.tmp 37), type := 32, pos := _, after := _, guard := none } (.slice aq k cq) ?_
    try simp only [Act.put, List.setIfInBounds_toArray, List.set_cons_zero, List.set_cons_succ]
    refine tzKOw 2 { dst := some 39, op := Op.fieldAddr 36 (Operand.tmp 1) 2, type := 0, pos := _, after := _, guard := none } (.pointer (some ⟨w.heap.size, 7, none⟩)) ?_
    try simp only [Act.put, List.setIfInBounds_toArray, List.set_cons_zero, List.set_cons_succ]
    refine tzKOw 3 { dst := some 40, op := Op.load 32 (Operand.tmp 39), type := 32, pos := _, after := _, guard := none } (.slice (some ⟨b, off, none⟩) N cp) ?_
    try simp only [Act.put, List.setIfInBounds_toArray, List.set_cons_zero, List.set_cons_succ]
    refine tzKOw 4 { dst := some 41, op := Op.move (Operand.tmp 4), type := 3, pos := _, after := _, guard := none } (.int .i64 (k : Int)) ?_
    try simp only [Act.put, List.setIfInBounds_toArray, List.set_cons_zero, List.set_cons_succ]
    refine wpAnyZ_take (i := 5) (oi := { dst := some 42, op := Op.indexAddr 32 (Operand.tmp 40) (Operand.tmp 41), type := 0, pos := _, after := _, guard := none }) (v := .pointer (some ⟨b, off + k * 7, none⟩)) 5 [] rfl (by kernel_rfl) (by kernel_rfl) (by kernel_rfl) (by kernel_rfl) (by kernel_rfl) (fun _ _ _ h => h) (Or.inl ⟨by rfl, ?_⟩) (by assumption) ?_
    ·intro wX hSw
     try dsimp only at hSw
     go_simp
     try exact IntWalk.i64_in _ (by omega)
     try (intro h9; exfalso; omega)
    try simp only [Act.put, List.setIfInBounds_toArray, List.set_cons_zero, List.set_cons_succ]
    refine tzKOw 6 { dst := some 43, op := Op.load 70 (Operand.tmp 42), type := 70, pos := _, after := _, guard := none } (.agg #[.int .i64 q.n, .slice a1 q.st.r.length e1', .int .i64 q.st.q, .int .i64 q.st.d, .slice a4 q.p.length e4', .slice a5 q.t.length e5', .slice a6 q.a.length e6']) ?_
    try simp only [Act.put, List.setIfInBounds_toArray, List.set_cons_zero, List.set_cons_succ]
    refine wpAnyZ_ready (rs := [7]) (by kernel_rfl) (by simp) ?_
    refine AllReadyZ.cons (o := { dst := some 44, op := Op.call { callee := Callee.value (Operand.func 67), args := #[Operand.tmp 43], argTypes := #[70] }, type := 70, pos := _, after := _, guard := none }) rfl (fun K hK => ?_) AllReadyZ.nil
    go_simp
    refine (l4own_any _ q wd HWT.out (HIP.out wd HBX.out)).mono ?_
    rintro e v1 ⟨y1, rfl, hb9, hy⟩
    obtain ⟨b1, e1, b4, e4, b5, e5, b6, e6, rfl⟩ := hy.form
    have HY := hidKOw hy
    have HBW := hidKOw hb9
    have HSD : Hid (B ≤ wd.heap.size) := HSX.out
    have HB1 := hidKOw (HBX.out.trans (hb9.mono HBX.out.size))
    have HS1 : Hid (B ≤ v1.heap.size) := Nat.le_trans HSX.out hb9.size
    have HT1 := hidKOw (HTX.out.trans (S := fun j => j = Kb) (Turns.of_below hb9))
    have HK1 := hidKOw (HKX.out.below hb9)
    have HP1 := hidKOw (HPX.out.below hb9)
    clear hb9 hy
    clear HKX HPX HTX HBX HSX
    have HKX := HK1
    have HPX := HP1
    have HTX := HT1
    have HBX := HB1
    have HSX := HS1
    clear HK1 HP1 HT1 HB1 HS1
    try go_simp
    refine hK.out _ _ ⟨HKX.out.cell (i := 7) rfl, HPX.out.cell (i := 7) rfl, (HBX.out.cell (p := ⟨b, _, none⟩) hb).trans f0, (HBX.out.cell (p := ⟨b, _, none⟩) hb).trans f1, (HBX.out.cell (p := ⟨b, _, none⟩) hb).trans f2, (HBX.out.cell (p := ⟨b, _, none⟩) hb).trans f3, (HBX.out.cell (p := ⟨b, _, none⟩) hb).trans f4, (HBX.out.cell (p := ⟨b, _, none⟩) hb).trans f5, (HBX.out.cell (p := ⟨b, _, none⟩) hb).trans f6⟩ (fun hHeld => ?_)
    clear hK K
    try simp only [Act.put, List.setIfInBounds_toArray, List.set_cons_zero, List.set_cons_succ]
    refine wpAnyZ_ready (rs := [8]) (by kernel_rfl) (by simp) ?_
    refine AllReadyZ.cons (o := { dst := some 45, op := Op.buildSlice 32 1 #[(0, Operand.tmp 44)], type := 32, pos := _, after := _, guard := none }) rfl (fun K hK => ?_) AllReadyZ.nil
    obtain ⟨X2, v2, HX2, HV, hbv, hs2⟩ := lay_any v1 #[.int .i64 q.n, .slice b1 q.st.r.length e1, .int .i64 q.st.q, .int .i64 q.st.d, .slice b4 q.p.length e4, .slice b5 q.t.length e5, .slice b6 q.a.length e6] 70
    have HS2 := hidKOw hs2
    have HY2 : Hid (PartF (fun j => wd.heap.size ≤ j ∧ j < v2.heap.size) v2 (.agg #[.int .i64 q.n, .slice b1 q.st.r.length e1, .int .i64 q.st.q, .int .i64 q.st.d, .slice b4 q.p.length e4, .slice b5 q.t.length e5, .slice b6 q.a.length e6]) q) := (HY.out.under hbv).mono (fun j hj => ⟨hj.1, Nat.lt_of_lt_of_le hj.2 hbv.size⟩)
    have HB1 := hidKOw (HBX.out.trans (hbv.mono HBX.out.size))
    have HS1 : Hid (B ≤ v2.heap.size) := Nat.le_trans HSX.out hbv.size
    have HBW2 := hidKOw (HBW.out.trans (hbv.mono HBW.out.size))
    have HT1 := hidKOw (HTX.out.trans (S := fun j => j = Kb) (Turns.of_below hbv))
    have HK1 := hidKOw (HKX.out.below hbv)
    have HP1 := hidKOw (HPX.out.below hbv)
    clear HY HBW hbv hs2
    clear HKX HPX HTX HBX HSX
    have HKX := HK1
    have HPX := HP1
    have HTX := HT1
    have HBX := HB1
    have HSX := HS1
    clear HK1 HP1 HT1 HB1 HS1
    go_simp
    rw [HV.out, ← HX2.out]
    clear HV HX2
    refine hK.out _ _ ⟨HKX.out.cell (i := 7) rfl, HPX.out.cell (i := 7) rfl, (HBX.out.cell (p := ⟨b, _, none⟩) hb).trans f0, (HBX.out.cell (p := ⟨b, _, none⟩) hb).trans f1, (HBX.out.cell (p := ⟨b, _, none⟩) hb).trans f2, (HBX.out.cell (p := ⟨b, _, none⟩) hb).trans f3, (HBX.out.cell (p := ⟨b, _, none⟩) hb).trans f4, (HBX.out.cell (p := ⟨b, _, none⟩) hb).trans f5, (HBX.out.cell (p := ⟨b, _, none⟩) hb).trans f6⟩ (fun hHeld => ?_)
    clear hK K
    try simp only [Act.put, List.setIfInBounds_toArray, List.set_cons_zero, List.set_cons_succ]
    refine wpAnyZ_ready (rs := [9]) (by kernel_rfl) (by simp) ?_
    refine AllReadyZ.cons (o := { dst := some 46, op := Op.call { callee := Callee.builtin Builtin.append, args := #[Operand.tmp 38, Operand.tmp 45], argTypes := #[32, 32] }, type := 32, pos := _, after := _, guard := none }) rfl (fun K hK => ?_) AllReadyZ.nil
    obtain ⟨cs, G, hgd⟩ := HGX.out
    have hrow := (hgd.below HBW2.out).row
    obtain ⟨i0, hi0, hz0, hz1, hz2⟩ := info_parts infoPt
    refine step_append_src rfl (.tmp 38) (.tmp 45) 32 rfl B 70 i0 (.agg #[.int .i64 0, .slice none 0 0, .int .i64 0, .int .i64 0, .slice none 0 0, .slice none 0 0, .slice none 0 0]) 7 120 Tryz.underlying32 hi0 hz0 hz1 hz2 rfl (by decide) (.slice aq k cq) k cs rfl hrow (.slice (some ⟨X2, 0, none⟩) 1 1) 1 (partL q (.slice b1 q.st.r.length e1) (.slice b4 q.p.length e4) (.slice b5 q.t.length e5) (.slice b6 q.a.length e6)) rfl (src_part HS2.out) (partL_ones _ _ _ _ _ _ _ _ _ _ _ _ _) (by unfold maxLen; omega) (by omega) HSX.out ?_
    intro v9 v4 ho hg hnr
    obtain ⟨a9, c9, rfl⟩ := owns_slice ho
    have HG4 : Hid (PsG B v4 (.slice a9 (k + 1) c9) (k + 1) (newPs m N)) := by
     have h9 := HY2.out
     have h8 := HQ.out
     subst h8
     exact hgd.snocPa HBW2.out HSD.out h9 _ _ _ _ rfl ho hg hnr
    have HB1 := hidKOw (HBX.out.trans ((Below.refl _ v2).grown hg HBX.out.size (fun j e => by have h9 := row_ge hrow e; omega)))
    have HS1 : Hid (B ≤ v4.heap.size) := Nat.le_trans HSX.out hg.size
    have HT1 := hidKOw (HTX.out.grownNew hg (fun j e => by have h9 := row_ge hrow e; have h8 := HBE.out; omega))
    have HK1 := hidKOw (HKX.out.turns (grown_turns hg) (owns_ne hrow HKX.out (by decide)))
    have HP1 := hidKOw (HPX.out.turns (grown_turns hg) (owns_ne hrow HPX.out (by decide)))
    clear ho hg hnr hgd hrow hi0 hz0 hz1 hz2 HS2 HY2 HGX HBW2 HSD HQ
    clear HKX HPX HTX HBX HSX
    have HKX := HK1
    have HPX := HP1
    have HTX := HT1
    have HBX := HB1
    have HSX := HS1
    clear HK1 HP1 HT1 HB1 HS1
    refine hK.out _ _ ⟨HKX.out.cell (i := 7) rfl, HPX.out.cell (i := 7) rfl, (HBX.out.cell (p := ⟨b, _, none⟩) hb).trans f0, (HBX.out.cell (p := ⟨b, _, none⟩) hb).trans f1, (HBX.out.cell (p := ⟨b, _, none⟩) hb).trans f2, (HBX.out.cell (p := ⟨b, _, none⟩) hb).trans f3, (HBX.out.cell (p := ⟨b, _, none⟩) hb).trans f4, (HBX.out.cell (p := ⟨b, _, none⟩) hb).trans f5, (HBX.out.cell (p := ⟨b, _, none⟩) hb).trans f6⟩ (fun hHeld => ?_)
    clear hK K
    try simp only [Act.put, List.setIfInBounds_toArray, List.set_cons_zero, List.set_cons_succ]
    refine tzKOw 10 { dst := some 47, op := Op.fieldAddr 36 (Operand.tmp 3) 2, type := 0, pos := _, after := _, guard := none } (.pointer (some ⟨Kb, 7, none⟩)) ?_
    try simp only [Act.put, List.setIfInBounds_toArray, List.set_cons_zero, List.set_cons_succ]
    refine wpAnyZ_ready (rs := [11]) (by kernel_rfl) (by simp) ?_
    refine AllReadyZ.last (o := { dst := none, op := Op.store 32 (Operand.tmp 47) (Operand.tmp 46), type := 0, pos := _, after := _, guard := none }) rfl (fun K hK => ?_)
    have k7 := HKX.out.cell (i := 7) rfl
    have kf := HKX.out.free
    obtain ⟨wf, hwf⟩ : ∃ X, v4.setCell ⟨Kb, 7, none⟩ (.slice a9 (k + 1) c9) = X := ⟨_, rfl⟩
    have HTF : Hid (Turns (fun j => j = Kb) v4 wf) := hwf ▸ put1_turns _ _ 7 _
    have HKF : Hid (Bk wf Kb 36 #[.int .i64 m.n, .int .i64 m.s, .slice avi m.i.length cvi, .slice avh m.h.length cvh, .slice avs m.e.length cvs, .int .i64 m.z, .slice ad2 d.length cd2, .slice a9 (k + 1) c9, .slice a12 0 0, .int .i64 6, .int .i64 (-1), .bool false, .slice asu 0 csu, .slice a25 0 0]) := hwf ▸ HKX.out.put 7 _
    have HTF9 := hidKOw (HTX.out.trans HTF.out)
    have HGF := hidKOw (HG4.out.low HTF.out (fun j hj e => by omega))
    have HWF : Hid _ := hwf
    clear hwf
    go_simp
    rw [HWF.out]
    clear HWF k7 kf HTF HKX HPX HTX HBX HG4 HSX
    refine hK.out _ _ ?_
    clear hK K
    try simp only [Act.put, List.setIfInBounds_toArray, List.set_cons_zero, List.set_cons_succ]
    refine wpAnyZ_done (by kernel_rfl) ?_ _
    clear hHeld
    go_wp2
    go_roundw
    case rel => exact ⟨k + 1, _, by omega, by go_num, HGF.out, HKF.out, HTF9.out⟩
    case measure => simp [intOf]; omega
   case neg =>
    obtain rfl : k = N := by omega
    have hkd : decide ((k : Int) < (k : Int)) = false := by simp
    have HRr := hidKOw (HR5.out.turns HTr.out (fun e => by omega))
    obtain ⟨m0, m1, m2, m3, m4, m5, m6, m7, m8, m9, m10, m11, m12, m13⟩ := c14_14 HKr.out
    obtain ⟨r0, r1, r2, r3, r4, r5, r6, r7, r8, r9, r10, r11, r12, r13⟩ := c14_14 HRr.out
    have rf := HRr.out.free
    obtain ⟨wf, hwf⟩ : ∃ X, put14 wr Rb (.int .i64 m.n) (.int .i64 m.s) (.slice avi m.i.length cvi) (.slice avh m.h.length cvh) (.slice avs m.e.length cvs) (.int .i64 m.z) (.slice ad2 d.length cd2) (.slice aq k cq) (.slice a12 0 0) (.int .i64 6) (.int .i64 (-1)) (.bool false) (.slice asu 0 csu) (.slice a25 0 0) = X := ⟨_, rfl⟩
    have HTF : Hid (Turns (fun j => j = Rb) wr wf) := hwf ▸ put14_turns _ _ _ _ _ _ _ _ _ _ _ _ _ _ _ _
    have HRF : Hid (Bk wf Rb 36 #[.int .i64 m.n, .int .i64 m.s, .slice avi m.i.length cvi, .slice avh m.h.length cvh, .slice avs m.e.length cvs, .int .i64 m.z, .slice ad2 d.length cd2, .slice aq k cq, .slice a12 0 0, .int .i64 6, .int .i64 (-1), .bool false, .slice asu 0 csu, .slice a25 0 0]) := hwf ▸ HRr.out.put14 _ _ _ _ _ _ _ _ _ _ _ _ _ _
    have HBF := hidKOw (HBr.out.trans (HTF.out.to_below (fun j hj => by omega) HBr.out.size))
    have HGF := hidKOw (HGr.out.low HTF.out (fun j hj e => by omega))
    have HMF := hidKOw ((HMD.out.turns HTr.out (fun j hj e => by omega)).turns HTF.out (fun j hj e => by omega))
    have hd1 := owns_turns HDD.out HTr.out (fun j hj e => owns_ne HDD.out HK5.out (by decide) (e ▸ hj))
    have HDF : Hid (wf.ownsRow n1 3 1 (.slice ad2 d.length cd2) d.length (intCells d)) := owns_turns hd1 HTF.out (fun j hj e => owns_ne hd1 HRr.out (by decide) (e ▸ hj))
    obtain ⟨t0, t1, t2, t3, t4, t5, t6, t7, t8, t9, t10, t11, t12, t13⟩ := c14_14 HRF.out
    unfold put14 at hwf
    clear hd1
    go_wp2
    refine bodyPost_ret (v := .agg #[.int .i64 m.n, .int .i64 m.s, .slice avi m.i.length cvi, .slice avh m.h.length cvh, .slice avs m.e.length cvs, .int .i64 m.z, .slice ad2 d.length cd2, .slice aq k cq, .slice a12 0 0, .int .i64 6, .int .i64 (-1), .bool false, .slice asu 0 csu, .slice a25 0 0]) (by simp [results, Tryz.results27, go_sem, t0, t1, t2, t3, t4, t5, t6, t7, t8, t9, t10, t11, t12, t13]) rfl ⟨⟨_, rfl, ?_⟩, HBF.out⟩
    rw [HNK.out]
    obtain ⟨A, hA, hA9⟩ := PsG.ownD (l := newPs m k) (by rw [newPs_len]; exact HGF.out)
    have hR := RowF.ownB (by rw [intCells_length]; omega) HDF.out
    have hlt : ∀ j, Value.ownBlock (.slice ad2 d.length cd2) = some j → j < B := fun j hj => HBE.out ▸ owns_lt HDD.out hj
    have hBf : B ≤ wf.heap.size := Nat.le_trans HSr.out HTF.out.size
    have hB9 := HBE.out
    exact ⟨_, (fun j => Value.ownBlock (.slice ad2 d.length cd2) = some j), A, fun _ => False, fun _ => False, fun _ => False, _, _, _, _, _, _, _, _, rfl, HMF.out, hR.own, hA, .nil _ _ _ _ _ (Nat.zero_le _), .nil _ _ _ _ _ hsu, .nil _ _ _ _ _ (Nat.zero_le _), fun j hj => ⟨⟨by omega, by omega⟩, fun e => by have := row_ge HDF.out e; omega, fun e => by have := hA9 j e; omega, id, id, id⟩, fun j hj => ⟨⟨by have := row_ge HDF.out hj; omega, owns_lt HDF.out hj⟩, fun e => by have := hA9 j e; have := hlt j hj; omega, id, id, id⟩, fun j hj => ⟨⟨by have := hA9 j hj; omega, (hA9 j hj).2⟩, id, id, id⟩, fun _ h => h.elim, fun _ h => h.elim, fun _ h => h.elim⟩
end Go.Proofs.YthfhibnnkpbeiaaGreat
