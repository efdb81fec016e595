/- PDp, PGa, PGc -/
import Derived.Test.YtnccenbkpocjgaaGreatExactUnhearG06
import Derived.Test.YtnccenbkpocjgaaGreatExactHearG31
/- The doer hands out its part; what became of it, or the part as it was. -/
namespace Go.Proofs.YtnccenbkpocjgaaGreat
open Go.RowKit
theorem thPDp {P : Program} {md : Region.Mode} {ops : Array Oper} {Q : Exit → Act → World → Prop} {S : World → Prop} {fuel : Nat} {listed : Array Bool} {a : Act} {w : World} (i : Nat) (oi : Oper) (v : Value)
 (h : wpAnyH P md ops Q S fuel (listed.setIfInBounds i true) (a.put oi.dst v) w) (hi : ops[i]? = some oi := by rfl)
 (hs : Region.noSelect ops = true := by kernel_rfl) (hf : Region.free md ops listed i = true := by kernel_rfl) (hr : (Region.ready md ops listed).contains i = true := by kernel_rfl)
 (hQ : ∀ c a w, Q (.panic c) (a.put oi.dst v) w → Q (.panic c) a w := by exact fun _ _ _ h => h)
 (hy : YieldsIf P ops S oi v a := by exact Or.inl ⟨by rfl, by (intro wX hSw; (try dsimp only at hSw); go_simp; (try exact IntWalk.i64_in _ (by omega)))⟩) (hS : S w := by assumption) : wpAnyH P md ops Q S (fuel + 1) listed a w :=
 wpAnyH_take hi hs hf hr hQ hy hS h
theorem hidPDp {p : Prop} (h : p) : Hid p := h
theorem DoR.uForm {B D : Nat} {w : World} {vr vp vt va vu : Value} {A1 A4 : Nat → Prop} {p : Pa} {u : List Ev} (h : DoR B D w vr vp vt va vu A1 A4 p u) : ∃ a7 c7, vu = .slice a7 u.length c7 := owns_slice h.und
set_option maxRecDepth 100000 in
set_option maxHeartbeats 8000000 in
theorem part_any (B D : Nat) (vr vp vt va vu : Value) (A1 A4 : Nat → Prop) (p : Pa) (u : List Ev) (w : World) (hl : p.t.length ≤ 1048577) (h : DoR B D w vr vp vt va vu A1 A4 p u) :
  Calls Tryz.prog 84 #[.pointer (some ⟨D, 0, none⟩)] w fun r w' => r = .returned (.agg #[.int .i64 p.n, vr, .int .i64 p.st.q, .int .i64 p.st.d, vp, vt, va]) ∧ DoR B D w' vr vp vt va vu A1 A4 p.rev u ∧ Turns (fun k => vt.ownBlock = some k) w w' := by
 have HH := hidPDp h
 obtain ⟨a1, c1, a4, c4, a5, c5, a6, c6, rfl, rfl, rfl, rfl⟩ := h.cp.forms
 obtain ⟨W0, hW0⟩ : ∃ W0, w.alloc (.cells #[.int .i64 0, .slice none 0 0, .int .i64 0, .int .i64 0, .slice none 0 0, .slice none 0 0, .slice none 0 0] 33) = W0 := ⟨_, rfl⟩
 have HR0 : Hid (Bk W0 w.heap.size 33 #[.int .i64 0, .slice none 0 0, .int .i64 0, .int .i64 0, .slice none 0 0, .slice none 0 0, .slice none 0 0]) := hW0 ▸ Bk.new _ _ _
 have HB0 : Hid (Below w.heap.size w W0) := hW0 ▸ (Below.refl _ w).alloc (Nat.le_refl _) _
 have HO0 := hidPDp (HH.out.below HB0.out)
 have HW0 := hidPDp hW0
 have hD := h.blk.lt
 have hs0 : w.heap.size < W0.heap.size := HR0.out.lt
 have x5 := HO0.out.blk.cell (i := 5) rfl
 clear h hW0
 go_enter Tryz.func84, Tryz.ntmps84
 go_upto_region 1 with fail
 rw [HW0.out]
 clear HW0
 go_wp2_with fail
 clear x5
 refine (rev_any B _ p.t W0 hl HO0.out.cp.todo).mono ?_
 rintro r w1 ⟨⟨ur, rfl⟩, ho, ht⟩
 have HD1 := hidPDp (HO0.out.blk.turns ht (owns_ne HO0.out.cp.todo HO0.out.blk (by decide)))
 have HR1 := hidPDp (HR0.out.turns ht (owns_ne HO0.out.cp.todo HR0.out (by decide)))
 have HO1 : Hid (DoR B D w1 (.slice a1 p.st.r.length c1) (.slice a4 p.p.length c4) (.slice a5 p.t.length c5) (.slice a6 p.a.length c6) vu A1 A4 p.rev u) := ⟨HO0.out.cp.revd ho ht, owns_turns HO0.out.und ht (fun k hk e => (HO0.out.du k hk).2.2.1 e), HD1.out, HO0.out.du, HO0.out.dD, HO0.out.lo⟩
 have HT1 := hidPDp ((Turns.of_below HB0.out).trans ht)
 have hs1 : W0.heap.size ≤ w1.heap.size := ht.size
 clear ho ht
 go_wp2_with fail
 refine wp_region_held_drew (S := fun W => W.cell? ⟨D, 0, none⟩ = some (.slice a1 p.st.r.length c1) ∧ W.cell? ⟨D, 1, none⟩ = some (.int .i64 p.st.q) ∧ W.cell? ⟨D, 2, none⟩ = some (.int .i64 p.st.d) ∧ W.cell? ⟨D, 3, none⟩ = some (.int .i64 p.n) ∧ W.cell? ⟨D, 4, none⟩ = some (.slice a4 p.p.length c4) ∧ W.cell? ⟨D, 5, none⟩ = some (.slice a5 p.t.length c5) ∧ W.cell? ⟨D, 6, none⟩ = some (.slice a6 p.a.length c6)) (by kernel_rfl) ⟨HD1.out.drew.cell rfl, HD1.out.drew.cell rfl, HD1.out.drew.cell rfl, HD1.out.drew.cell rfl, HD1.out.drew.cell rfl, HD1.out.drew.cell rfl, HD1.out.drew.cell rfl⟩ (fun hHeld => ?_)
 refine thPDp 0 { dst := some 9, op := Op.move (Operand.tmp 0), type := 98, pos := _, after := _, guard := none } (.pointer (some ⟨D, 0, none⟩)) ?_
 try simp only [Act.put, List.setIfInBounds_toArray, List.set_cons_zero, List.set_cons_succ]
 refine thPDp 1 { dst := some 10, op := Op.nilCheck (Operand.tmp 9), type := 0, pos := _, after := _, guard := none } (.pointer (some ⟨D, 0, none⟩)) ?_
 try simp only [Act.put, List.setIfInBounds_toArray, List.set_cons_zero, List.set_cons_succ]
 refine thPDp 2 { dst := some 11, op := Op.fieldAddr 157 (Operand.tmp 10) 1, type := 0, pos := _, after := _, guard := none } (.pointer (some ⟨D, 3, none⟩)) ?_
 try simp only [Act.put, List.setIfInBounds_toArray, List.set_cons_zero, List.set_cons_succ]
 refine thPDp 3 { dst := some 12, op := Op.load 3 (Operand.tmp 11), type := 3, pos := _, after := _, guard := none } (.int .i64 p.n) ?_
 try simp only [Act.put, List.setIfInBounds_toArray, List.set_cons_zero, List.set_cons_succ]
 refine thPDp 4 { dst := some 13, op := Op.move (Operand.tmp 0), type := 98, pos := _, after := _, guard := none } (.pointer (some ⟨D, 0, none⟩)) ?_
 try simp only [Act.put, List.setIfInBounds_toArray, List.set_cons_zero, List.set_cons_succ]
 refine thPDp 5 { dst := some 14, op := Op.nilCheck (Operand.tmp 13), type := 0, pos := _, after := _, guard := none } (.pointer (some ⟨D, 0, none⟩)) ?_
 try simp only [Act.put, List.setIfInBounds_toArray, List.set_cons_zero, List.set_cons_succ]
 refine thPDp 6 { dst := some 15, op := Op.fieldAddr 157 (Operand.tmp 14) 0, type := 0, pos := _, after := _, guard := none } (.pointer (some ⟨D, 0, none⟩)) ?_
 try simp only [Act.put, List.setIfInBounds_toArray, List.set_cons_zero, List.set_cons_succ]
 refine thPDp 7 { dst := some 16, op := Op.load 29 (Operand.tmp 15), type := 29, pos := _, after := _, guard := none } (.agg #[.slice a1 p.st.r.length c1, .int .i64 p.st.q, .int .i64 p.st.d]) ?_
 try simp only [Act.put, List.setIfInBounds_toArray, List.set_cons_zero, List.set_cons_succ]
 refine thPDp 8 { dst := some 17, op := Op.move (Operand.tmp 0), type := 98, pos := _, after := _, guard := none } (.pointer (some ⟨D, 0, none⟩)) ?_
 try simp only [Act.put, List.setIfInBounds_toArray, List.set_cons_zero, List.set_cons_succ]
 refine thPDp 9 { dst := some 18, op := Op.nilCheck (Operand.tmp 17), type := 0, pos := _, after := _, guard := none } (.pointer (some ⟨D, 0, none⟩)) ?_
 try simp only [Act.put, List.setIfInBounds_toArray, List.set_cons_zero, List.set_cons_succ]
 refine thPDp 10 { dst := some 19, op := Op.fieldAddr 157 (Operand.tmp 18) 2, type := 0, pos := _, after := _, guard := none } (.pointer (some ⟨D, 4, none⟩)) ?_
 try simp only [Act.put, List.setIfInBounds_toArray, List.set_cons_zero, List.set_cons_succ]
 refine thPDp 11 { dst := some 20, op := Op.fieldAddr 153 (Operand.tmp 19) 0, type := 0, pos := _, after := _, guard := none } (.pointer (some ⟨D, 4, none⟩)) ?_
 try simp only [Act.put, List.setIfInBounds_toArray, List.set_cons_zero, List.set_cons_succ]
 refine thPDp 12 { dst := some 21, op := Op.load 30 (Operand.tmp 20), type := 30, pos := _, after := _, guard := none } (.slice a4 p.p.length c4) ?_
 try simp only [Act.put, List.setIfInBounds_toArray, List.set_cons_zero, List.set_cons_succ]
 refine thPDp 13 { dst := some 22, op := Op.move (Operand.tmp 0), type := 98, pos := _, after := _, guard := none } (.pointer (some ⟨D, 0, none⟩)) ?_
 try simp only [Act.put, List.setIfInBounds_toArray, List.set_cons_zero, List.set_cons_succ]
 refine thPDp 14 { dst := some 23, op := Op.nilCheck (Operand.tmp 22), type := 0, pos := _, after := _, guard := none } (.pointer (some ⟨D, 0, none⟩)) ?_
 try simp only [Act.put, List.setIfInBounds_toArray, List.set_cons_zero, List.set_cons_succ]
 refine thPDp 15 { dst := some 24, op := Op.fieldAddr 157 (Operand.tmp 23) 3, type := 0, pos := _, after := _, guard := none } (.pointer (some ⟨D, 5, none⟩)) ?_
 try simp only [Act.put, List.setIfInBounds_toArray, List.set_cons_zero, List.set_cons_succ]
 refine thPDp 16 { dst := some 25, op := Op.fieldAddr 155 (Operand.tmp 24) 0, type := 0, pos := _, after := _, guard := none } (.pointer (some ⟨D, 5, none⟩)) ?_
 try simp only [Act.put, List.setIfInBounds_toArray, List.set_cons_zero, List.set_cons_succ]
 refine thPDp 17 { dst := some 26, op := Op.load 31 (Operand.tmp 25), type := 31, pos := _, after := _, guard := none } (.slice a5 p.t.length c5) ?_
 try simp only [Act.put, List.setIfInBounds_toArray, List.set_cons_zero, List.set_cons_succ]
 refine thPDp 18 { dst := some 27, op := Op.move (Operand.tmp 0), type := 98, pos := _, after := _, guard := none } (.pointer (some ⟨D, 0, none⟩)) ?_
 try simp only [Act.put, List.setIfInBounds_toArray, List.set_cons_zero, List.set_cons_succ]
 refine thPDp 19 { dst := some 28, op := Op.nilCheck (Operand.tmp 27), type := 0, pos := _, after := _, guard := none } (.pointer (some ⟨D, 0, none⟩)) ?_
 try simp only [Act.put, List.setIfInBounds_toArray, List.set_cons_zero, List.set_cons_succ]
 refine thPDp 20 { dst := some 29, op := Op.fieldAddr 157 (Operand.tmp 28) 4, type := 0, pos := _, after := _, guard := none } (.pointer (some ⟨D, 6, none⟩)) ?_
 try simp only [Act.put, List.setIfInBounds_toArray, List.set_cons_zero, List.set_cons_succ]
 refine thPDp 21 { dst := some 30, op := Op.load 22 (Operand.tmp 29), type := 22, pos := _, after := _, guard := none } (.slice a6 p.a.length c6) ?_
 try simp only [Act.put, List.setIfInBounds_toArray, List.set_cons_zero, List.set_cons_succ]
 refine thPDp 22 { dst := some 31, op := Op.build 33 #[(0, Operand.tmp 12), (1, Operand.tmp 16), (2, Operand.tmp 21), (3, Operand.tmp 26), (4, Operand.tmp 30)], type := 33, pos := _, after := _, guard := none } (.agg #[.int .i64 p.n, .slice a1 p.st.r.length c1, .int .i64 p.st.q, .int .i64 p.st.d, .slice a4 p.p.length c4, .slice a5 p.t.length c5, .slice a6 p.a.length c6]) ?_
 try simp only [Act.put, List.setIfInBounds_toArray, List.set_cons_zero, List.set_cons_succ]
 refine wpAnyH_ready (rs := [23]) (by kernel_rfl) (by simp) ?_
 refine AllReadyH.cons (o := { dst := none, op := Op.store 33 (Operand.tmp 2) (Operand.tmp 31), type := 0, pos := _, after := _, guard := none }) rfl (fun K hK => ?_) AllReadyH.nil
 have z0 := HR1.out.cell (i := 0) rfl
 have z1 := HR1.out.cell (i := 1) rfl
 have z2 := HR1.out.cell (i := 2) rfl
 have z3 := HR1.out.cell (i := 3) rfl
 have z4 := HR1.out.cell (i := 4) rfl
 have z5 := HR1.out.cell (i := 5) rfl
 have z6 := HR1.out.cell (i := 6) rfl
 have zf := HR1.out.free
 obtain ⟨X5, hX5⟩ : ∃ X5, (put7s w1 w.heap.size (.int .i64 p.n) (.slice a1 p.st.r.length c1) (.int .i64 p.st.q) (.int .i64 p.st.d) (.slice a4 p.p.length c4) (.slice a5 p.t.length c5) (.slice a6 p.a.length c6)).drew = X5 := ⟨_, rfl⟩
 have hP := (HR1.out.put7s (.int .i64 p.n) (.slice a1 p.st.r.length c1) (.int .i64 p.st.q) (.int .i64 p.st.d) (.slice a4 p.p.length c4) (.slice a5 p.t.length c5) (.slice a6 p.a.length c6)).drew
 have ht := (put7s_turns w1 w.heap.size (.int .i64 p.n) (.slice a1 p.st.r.length c1) (.int .i64 p.st.q) (.int .i64 p.st.d) (.slice a4 p.p.length c4) (.slice a5 p.t.length c5) (.slice a6 p.a.length c6)).drew
 rw [hX5] at hP ht
 unfold put7s at hX5
 have HX5 : Hid _ := hX5
 have HP5 := hidPDp hP
 have HT5 := hidPDp ht
 have HD5 := hidPDp (HD1.out.turns ht (by omega))
 clear hX5 hP ht
 go_simp
 clear zf z0 z1 z2 z3 z4 z5 z6
 rw [HX5.out]
 refine hK.out _ _ ⟨HD5.out.cell rfl, HD5.out.cell rfl, HD5.out.cell rfl, HD5.out.cell rfl, HD5.out.cell rfl, HD5.out.cell rfl, HD5.out.cell rfl⟩ (fun hHeld => ?_)
 clear hK K
 try simp only [Act.put, List.setIfInBounds_toArray, List.set_cons_zero, List.set_cons_succ]
 refine wpAnyH_done (by kernel_rfl) ?_ _
 clear hHeld
 go_wp2
 have t0 := HP5.out.cell (i := 0) rfl
 have t1 := HP5.out.cell (i := 1) rfl
 have t2 := HP5.out.cell (i := 2) rfl
 have t3 := HP5.out.cell (i := 3) rfl
 have t4 := HP5.out.cell (i := 4) rfl
 have t5 := HP5.out.cell (i := 5) rfl
 have t6 := HP5.out.cell (i := 6) rfl
 refine bodyPost_ret (v := .agg #[.int .i64 p.n, .slice a1 p.st.r.length c1, .int .i64 p.st.q, .int .i64 p.st.d, .slice a4 p.p.length c4, .slice a5 p.t.length c5, .slice a6 p.a.length c6]) (by simp [results, Tryz.results84, go_sem, t0, t1, t2, t3, t4, t5, t6]) rfl ?_
 have hbT : Below w.heap.size w1 X5 := HT5.out.to_below (fun k e => by omega) (by omega)
 have hh := HH.out
 have hne : ∀ k, k = w.heap.size → ¬ A1 k ∧ ¬ A4 k ∧ (Value.slice a5 p.t.length c5).ownBlock ≠ some k ∧ (Value.slice a6 p.a.length c6).ownBlock ≠ some k := fun k e => ⟨fun e1 => by have := (hh.cp.d1 k e1).1; omega, fun e1 => by have := (hh.cp.d4 k e1).1; omega, fun e1 => by have := owns_lt hh.cp.todo e1; omega, fun e1 => by have := owns_lt hh.cp.antis e1; omega⟩
 exact ⟨rfl, ⟨HO1.out.cp.turns HT5.out hne, owns_turns HO1.out.und HT5.out (fun k hk e => by have := owns_lt hh.und hk; omega), HD5.out, hh.du, hh.dD, hh.lo⟩, HT1.out.belowT hbT⟩
theorem part_rev (B D : Nat) (vr vp vt va vu : Value) (A1 A4 : Nat → Prop) (q : Pa) (u : List Ev) (w : World) (hl : q.t.length ≤ 1048577) (h : DoR B D w vr vp vt va vu A1 A4 q.rev u) :
  Calls Tryz.prog 84 #[.pointer (some ⟨D, 0, none⟩)] w fun r w' => r = .returned (.agg #[.int .i64 q.n, vr, .int .i64 q.st.q, .int .i64 q.st.d, vp, vt, va]) ∧ DoR B D w' vr vp vt va vu A1 A4 q u ∧ Turns (fun k => vt.ownBlock = some k) w w' :=
 (part_any B D vr vp vt va vu A1 A4 q.rev u w (by show q.t.reverse.length ≤ 1048577; rw [List.length_reverse]; exact hl) h).mono fun r w' hh => ⟨hh.1, by have h2 := hh.2.1; rw [Pa.rev_rev] at h2; exact h2, hh.2.2⟩
theorem DoR.a2 {B D : Nat} {w : World} {vr vp vt va vu : Value} {A1 A4 : Nat → Prop} {q : Pa} {u : List Ev} (h : DoR B D w vr vp vt va vu A1 A4 q u) : A2 (fun k => B ≤ k ∧ k < w.heap.size) w (.agg #[.int .i64 q.n, vr, .int .i64 q.st.q, .int .i64 q.st.d, vp, vt, va]) vu q (evsD u) := by
 refine ⟨fun k => A1 k ∨ A4 k ∨ vt.ownBlock = some k ∨ va.ownBlock = some k, fun k => vu.ownBlock = some k, h.cp.partF _ (fun k hk => hk), (own_rowF (cellsL_length _) h.und).own, fun k hk => ?_, fun k hk => ⟨row_ge h.und hk, owns_lt h.und hk⟩⟩
 have hd : vu.ownBlock = some k → ¬ (A1 k ∨ A4 k ∨ vt.ownBlock = some k ∨ va.ownBlock = some k) := fun e1 e2 => by
  have := h.du k e1
  rcases e2 with e2 | e2 | e2 | e2
  ·exact this.1 e2
  ·exact this.2.1 e2
  ·exact this.2.2.1 e2
  ·exact this.2.2.2 e2
 refine ⟨?_, fun e => hd e hk⟩
 rcases hk with e | e | e | e
 ·exact (h.cp.d1 k e).1
 ·exact (h.cp.d4 k e).1
 ·exact ⟨row_ge h.cp.todo e, owns_lt h.cp.todo e⟩
 ·exact ⟨row_ge h.cp.antis e, owns_lt h.cp.antis e⟩
theorem DoR.other {B D N : Nat} {w w' : World} {vr vp vt va vu : Value} {A1 A4 : Nat → Prop} {p : Pa} {u : List Ev} (h : DoR B D w vr vp vt va vu A1 A4 p u) (ht : Turns (fun k => k = N) w w') (hA : ∀ k, A1 k ∨ A4 k → k ≠ N) (h5 : ∀ k, vt.ownBlock = some k → k ≠ N) (h6 : ∀ k, va.ownBlock = some k → k ≠ N) (h7 : ∀ k, vu.ownBlock = some k → k ≠ N) (hD : D ≠ N) : DoR B D w' vr vp vt va vu A1 A4 p u :=
 ⟨h.cp.turns ht (fun k e => ⟨fun e1 => hA k (.inl e1) e, fun e1 => hA k (.inr e1) e, fun e1 => h5 k e1 e, fun e1 => h6 k e1 e⟩), owns_turns h.und ht (fun k hk e => h7 k hk e), h.blk.turns ht hD, h.du, h.dD, h.lo⟩
noncomputable def outA (q p : Pa) : Pa := if q.ok = true then q else p
noncomputable def outB (q : Pa) (u : List Ev) : List Ev := if q.ok = true then u else []
set_option maxRecDepth 100000 in
set_option maxHeartbeats 16000000 in
theorem outcome_any (B D : Nat) (vr vp vt va vu : Value) (A1 A4 : Nat → Prop) (q p : Pa) (u : List Ev) (x : Value) (w : World) (hq : q.wt ≤ 1048576) (hp : p.wt ≤ 1048576) (hBw : B ≤ w.heap.size) (h : DoR B D w vr vp vt va vu A1 A4 q.rev u) (hx : ∀ w', Turns (fun k => vt.ownBlock = some k) w w' → IsPart w' x p) :
  Calls Tryz.prog 67 #[.pointer (some ⟨D, 0, none⟩), x] w fun r w' => ∃ y1 y2, r = .returned (.tuple #[y1, y2, .bool q.ok]) ∧ Turns (fun k => vt.ownBlock = some k) w w' ∧ A2 (fun k => B ≤ k ∧ k < w'.heap.size) w' y1 y2 (outA q p) (evsD (outB q u)) := by
 have hqw := hq
 have HIP0 := hidPDp hx
 have HH := hidPDp h
 obtain ⟨u1, u4, u5, u6, rfl, _⟩ := hx w (Turns.refl _ _)
 obtain ⟨a7, c7, rfl⟩ := h.uForm
 have hD := h.blk.lt
 obtain ⟨W0, hW0⟩ : ∃ W0, (w.alloc (.cells #[.int .i64 p.n, u1, .int .i64 p.st.q, .int .i64 p.st.d, u4, u5, u6] 33)).alloc (.cells #[.int .i64 0, .slice none 0 0, .int .i64 0, .int .i64 0, .slice none 0 0, .slice none 0 0, .slice none 0 0] 33) = W0 := ⟨_, rfl⟩
 have hb0 : Below w.heap.size w W0 := hW0 ▸ ((Below.refl _ w).alloc (Nat.le_refl _) _).alloc (by simp) _
 have HX0 : Hid (Bk W0 w.heap.size 33 #[.int .i64 p.n, u1, .int .i64 p.st.q, .int .i64 p.st.d, u4, u5, u6]) := hW0 ▸ (Bk.new w _ _).alloc _
 have HZ0 : Hid (Bk W0 (w.heap.size + 1) 33 #[.int .i64 0, .slice none 0 0, .int .i64 0, .int .i64 0, .slice none 0 0, .slice none 0 0, .slice none 0 0]) := hW0 ▸ Bk.newAt (by simp) _ _
 have HO0 := hidPDp (HH.out.below hb0)
 have HB0 := hidPDp hb0
 have hs0 : w.heap.size + 1 < W0.heap.size := HZ0.out.lt
 have HW0 := hidPDp hW0
 have hql : q.t.length ≤ 1048577 := by
  have h9 := hq
  unfold Pa.wt at h9
  rw [evs_wt] at h9
  omega
 clear hx h hb0 hW0 hq
 go_enter Tryz.func67, Tryz.ntmps67
 go_upto_region 1 with fail
 rw [HW0.out]
 clear HW0
 go_wp2_with fail
 refine (part_rev B D vr vp vt va _ A1 A4 q u W0 hql HO0.out).mono ?_
 rintro r w3 ⟨rfl, hdo, ht⟩
 have hT3 : Turns (fun k => vt.ownBlock = some k) w w3 := (Turns.of_below HB0.out).trans ht
 have hX3 : Bk w3 w.heap.size 33 #[.int .i64 p.n, u1, .int .i64 p.st.q, .int .i64 p.st.d, u4, u5, u6] := HX0.out.turns ht (owns_ne HO0.out.cp.todo HX0.out (by decide))
 have hZ3 : Bk w3 (w.heap.size + 1) 33 #[.int .i64 0, .slice none 0 0, .int .i64 0, .int .i64 0, .slice none 0 0, .slice none 0 0, .slice none 0 0] := HZ0.out.turns ht (owns_ne HO0.out.cp.todo HZ0.out (by decide))
 have hs3 : W0.heap.size ≤ w3.heap.size := ht.size
 obtain ⟨a1, c1, a4, c4, a5, c5, a6, c6, rfl, rfl, rfl, rfl⟩ := hdo.cp.forms
 have HIP := hidPDp HIP0.out
 have HA3 := hidPDp hdo.a2
 obtain ⟨W4, hW4⟩ : ∃ V, w3.alloc (.cells #[.int .i64 q.n, .slice a1 q.st.r.length c1, .int .i64 q.st.q, .int .i64 q.st.d, .slice a4 q.p.length c4, .slice a5 q.t.length c5, .slice a6 q.a.length c6] 33) = V := ⟨_, rfl⟩
 have hb4 : Below w3.heap.size w3 W4 := hW4 ▸ (Below.refl _ w3).alloc (Nat.le_refl _) _
 have HB34 := hidPDp hb4
 have Q4 : Hid (Bk W4 w3.heap.size 33 #[.int .i64 q.n, .slice a1 q.st.r.length c1, .int .i64 q.st.q, .int .i64 q.st.d, .slice a4 q.p.length c4, .slice a5 q.t.length c5, .slice a6 q.a.length c6]) := hW4 ▸ Bk.new w3 _ _
 have Z4 := hidPDp (hZ3.below hb4)
 have X4 := hidPDp (hX3.below hb4)
 have HD4 := hidPDp (hdo.below hb4)
 have HT4 := hidPDp (hT3.trans (Turns.of_below hb4))
 have hs4 : w3.heap.size < W4.heap.size := Q4.out.lt
 have HNR : Hid (∀ k, A1 k ∨ A4 k → k < w.heap.size) := fun k hk => by
  rcases hk with e | e
  ·exact (HH.out.cp.d1 k e).1.2
  ·exact (HH.out.cp.d4 k e).1.2
 clear hT3 hX3 hZ3 hb4 ht
 have y0 := Q4.out.cell (i := 0) rfl
 have y1 := Q4.out.cell (i := 1) rfl
 have y2 := Q4.out.cell (i := 2) rfl
 have y3 := Q4.out.cell (i := 3) rfl
 have y4 := Q4.out.cell (i := 4) rfl
 have y5 := Q4.out.cell (i := 5) rfl
 have y6 := Q4.out.cell (i := 6) rfl
 go_wp2_with fail
 clear hW4 hdo y0 y1 y2 y3 y4 y5 y6
 refine (iPartOk_is _ q _ hqw (HA3.out.part.under HB34.out)).mono ?_
 rintro r w5 ⟨rfl, hb⟩
 have HB45 := hidPDp (HB34.out.trans (hb.mono HB34.out.size))
 have HB5 := hidPDp (HT4.out.trans (Turns.of_below hb))
 have hs5 : W4.heap.size ≤ w5.heap.size := hb.size
 have Z5 := hidPDp (Z4.out.below hb)
 have X5' : Hid (Bk w5 w.heap.size 33 #[.int .i64 p.n, u1, .int .i64 p.st.q, .int .i64 p.st.d, u4, u5, u6]) := X4.out.below hb
 have Q5 := hidPDp (Q4.out.below hb)
 have HD5 := hidPDp (HD4.out.below hb)
 clear hb Z4 X4 Q4 HD4
 cases hoa : q.ok
 case false =>
  have HOA : Hid (q.ok = false) := hoa
  clear hoa
  have x0 := X5'.out.cell (i := 0) rfl
  have x1 := X5'.out.cell (i := 1) rfl
  have x2 := X5'.out.cell (i := 2) rfl
  have x3 := X5'.out.cell (i := 3) rfl
  have x4 := X5'.out.cell (i := 4) rfl
  have x5 := X5'.out.cell (i := 5) rfl
  have x6 := X5'.out.cell (i := 6) rfl
  go_wp2_with fail
  clear x0 x1 x2 x3 x4 x5 x6
  have hIP : IsPart w5 (.agg #[.int .i64 p.n, u1, .int .i64 p.st.q, .int .i64 p.st.d, u4, u5, u6]) p := HIP.out w5 HB5.out
  refine (copyPart_any _ p _ (by omega) hIP).mono ?_
  rintro r w6 ⟨y, rfl, hb, hF⟩
  have HB6 := hidPDp (HB5.out.trans (Turns.of_below hb))
  have hs6 : w5.heap.size ≤ w6.heap.size := hb.size
  have Z6 := hidPDp (Z5.out.below hb)
  have HF6 := hidPDp hF
  obtain ⟨r1, s1, r4, s4, r5, s5, r6, s6, rfl⟩ := PartF.form hF
  clear hb hF Z5 X5' Q5
  have z0 := Z6.out.cell (i := 0) rfl
  have z1 := Z6.out.cell (i := 1) rfl
  have z2 := Z6.out.cell (i := 2) rfl
  have z3 := Z6.out.cell (i := 3) rfl
  have z4 := Z6.out.cell (i := 4) rfl
  have z5 := Z6.out.cell (i := 5) rfl
  have z6 := Z6.out.cell (i := 6) rfl
  have zf := Z6.out.free
  obtain ⟨X5, hX5⟩ : ∃ X5, put7s w6 (w.heap.size + 1) (.int .i64 p.n) (.slice r1 p.st.r.length s1) (.int .i64 p.st.q) (.int .i64 p.st.d) (.slice r4 p.p.length s4) (.slice r5 p.t.length s5) (.slice r6 p.a.length s6) = X5 := ⟨_, rfl⟩
  have hP := Z6.out.put7s (.int .i64 p.n) (.slice r1 p.st.r.length s1) (.int .i64 p.st.q) (.int .i64 p.st.d) (.slice r4 p.p.length s4) (.slice r5 p.t.length s5) (.slice r6 p.a.length s6)
  have ht := put7s_turns w6 (w.heap.size + 1) (.int .i64 p.n) (.slice r1 p.st.r.length s1) (.int .i64 p.st.q) (.int .i64 p.st.d) (.slice r4 p.p.length s4) (.slice r5 p.t.length s5) (.slice r6 p.a.length s6)
  rw [hX5] at hP ht
  unfold put7s at hX5
  have HX5 : Hid _ := hX5
  have HP5 := hidPDp hP
  have HT5 := hidPDp ht
  clear hX5 hP ht
  go_wp2
  try rw [HX5.out]
  have t0 := HP5.out.cell (i := 0) rfl
  have t1 := HP5.out.cell (i := 1) rfl
  have t2 := HP5.out.cell (i := 2) rfl
  have t3 := HP5.out.cell (i := 3) rfl
  have t4 := HP5.out.cell (i := 4) rfl
  have t5 := HP5.out.cell (i := 5) rfl
  have t6 := HP5.out.cell (i := 6) rfl
  refine bodyPost_ret (v := .tuple #[.agg #[.int .i64 p.n, .slice r1 p.st.r.length s1, .int .i64 p.st.q, .int .i64 p.st.d, .slice r4 p.p.length s4, .slice r5 p.t.length s5, .slice r6 p.a.length s6], .slice none 0 0, .bool false]) (by simp [results, Tryz.results67, go_sem, t0, t1, t2, t3, t4, t5, t6]) rfl ?_
  have hA : outA q p = p ∧ outB q u = [] := by unfold outA outB; rw [HOA.out]; exact ⟨rfl, rfl⟩
  rw [hA.1, hA.2, HOA.out]
  have hsx := HT5.out.size
  exact ⟨_, _, rfl, HB6.out.belowT (HT5.out.to_below (fun b e => by omega) (by omega)), _, fun _ => False, HF6.out.turns HT5.out (fun b hb e => by omega), nilE _, fun b hb => ⟨by omega, id⟩, fun b hb => hb.elim⟩
 have HOA : Hid (q.ok = true) := hoa
 clear hoa X5'
 go_wp2_with fail
 refine wp_region_held_drew (S := fun W => W.cell? ⟨w3.heap.size, 0, none⟩ = some (.int .i64 q.n) ∧ W.cell? ⟨w3.heap.size, 1, none⟩ = some (.slice a1 q.st.r.length c1) ∧ W.cell? ⟨w3.heap.size, 2, none⟩ = some (.int .i64 q.st.q) ∧ W.cell? ⟨w3.heap.size, 3, none⟩ = some (.int .i64 q.st.d) ∧ W.cell? ⟨w3.heap.size, 4, none⟩ = some (.slice a4 q.p.length c4) ∧ W.cell? ⟨w3.heap.size, 5, none⟩ = some (.slice a5 q.t.length c5) ∧ W.cell? ⟨w3.heap.size, 6, none⟩ = some (.slice a6 q.a.length c6) ∧ W.cell? ⟨D, 7, none⟩ = some (.slice a7 u.length c7)) (by kernel_rfl) ⟨Q5.out.drew.cell rfl, Q5.out.drew.cell rfl, Q5.out.drew.cell rfl, Q5.out.drew.cell rfl, Q5.out.drew.cell rfl, Q5.out.drew.cell rfl, Q5.out.drew.cell rfl, HD5.out.blk.drew.cell rfl⟩ (fun hHeld => ?_)
 refine thPDp 0 { dst := some 15, op := Op.load 33 (Operand.tmp 7), type := 33, pos := _, after := _, guard := none } (.agg #[.int .i64 q.n, .slice a1 q.st.r.length c1, .int .i64 q.st.q, .int .i64 q.st.d, .slice a4 q.p.length c4, .slice a5 q.t.length c5, .slice a6 q.a.length c6]) ?_
 try simp only [Act.put, List.setIfInBounds_toArray, List.set_cons_zero, List.set_cons_succ]
 refine thPDp 1 { dst := some 16, op := Op.move (Operand.tmp 0), type := 98, pos := _, after := _, guard := none } (.pointer (some ⟨D, 0, none⟩)) ?_
 try simp only [Act.put, List.setIfInBounds_toArray, List.set_cons_zero, List.set_cons_succ]
 refine thPDp 2 { dst := some 17, op := Op.nilCheck (Operand.tmp 16), type := 0, pos := _, after := _, guard := none } (.pointer (some ⟨D, 0, none⟩)) ?_
 try simp only [Act.put, List.setIfInBounds_toArray, List.set_cons_zero, List.set_cons_succ]
 refine thPDp 3 { dst := some 18, op := Op.fieldAddr 157 (Operand.tmp 17) 5, type := 0, pos := _, after := _, guard := none } (.pointer (some ⟨D, 7, none⟩)) ?_
 try simp only [Act.put, List.setIfInBounds_toArray, List.set_cons_zero, List.set_cons_succ]
 refine thPDp 4 { dst := some 19, op := Op.load 31 (Operand.tmp 18), type := 31, pos := _, after := _, guard := none } (.slice a7 u.length c7) ?_
 try simp only [Act.put, List.setIfInBounds_toArray, List.set_cons_zero, List.set_cons_succ]
 refine wpAnyH_ready (rs := [5]) (by kernel_rfl) (by simp) ?_
 refine AllReadyH.cons (o := { dst := none, op := Op.store 33 (Operand.tmp 4) (Operand.tmp 15), type := 0, pos := _, after := _, guard := none }) rfl (fun K hK => ?_) AllReadyH.nil
 have z0 := Z5.out.cell (i := 0) rfl
 have z1 := Z5.out.cell (i := 1) rfl
 have z2 := Z5.out.cell (i := 2) rfl
 have z3 := Z5.out.cell (i := 3) rfl
 have z4 := Z5.out.cell (i := 4) rfl
 have z5 := Z5.out.cell (i := 5) rfl
 have z6 := Z5.out.cell (i := 6) rfl
 have zf := Z5.out.free
 obtain ⟨X5, hX5⟩ : ∃ X5, (put7s w5 (w.heap.size + 1) (.int .i64 q.n) (.slice a1 q.st.r.length c1) (.int .i64 q.st.q) (.int .i64 q.st.d) (.slice a4 q.p.length c4) (.slice a5 q.t.length c5) (.slice a6 q.a.length c6)).drew = X5 := ⟨_, rfl⟩
 have hP := (Z5.out.put7s (.int .i64 q.n) (.slice a1 q.st.r.length c1) (.int .i64 q.st.q) (.int .i64 q.st.d) (.slice a4 q.p.length c4) (.slice a5 q.t.length c5) (.slice a6 q.a.length c6)).drew
 have ht := (put7s_turns w5 (w.heap.size + 1) (.int .i64 q.n) (.slice a1 q.st.r.length c1) (.int .i64 q.st.q) (.int .i64 q.st.d) (.slice a4 q.p.length c4) (.slice a5 q.t.length c5) (.slice a6 q.a.length c6)).drew
 rw [hX5] at hP ht
 unfold put7s at hX5
 have HX5 : Hid _ := hX5
 have HP5 := hidPDp hP
 have HT5 := hidPDp ht
 have QX := hidPDp (Q5.out.turns ht (by omega))
 have HDX := hidPDp (HD5.out.blk.turns ht (by omega))
 clear hX5 hP ht
 go_simp
 clear zf z0 z1 z2 z3 z4 z5 z6
 rw [HX5.out]
 refine hK.out _ _ ⟨QX.out.cell rfl, QX.out.cell rfl, QX.out.cell rfl, QX.out.cell rfl, QX.out.cell rfl, QX.out.cell rfl, QX.out.cell rfl, HDX.out.cell rfl⟩ (fun hHeld => ?_)
 clear hK K
 try simp only [Act.put, List.setIfInBounds_toArray, List.set_cons_zero, List.set_cons_succ]
 refine thPDp 6 { dst := some 5, op := Op.assign (Operand.tmp 19), type := 31, pos := _, after := _, guard := none } (.slice a7 u.length c7) ?_
 try simp only [Act.put, List.setIfInBounds_toArray, List.set_cons_zero, List.set_cons_succ]
 refine thPDp 7 { dst := some 6, op := Op.assign (Operand.const (Value.bool true)), type := 4, pos := _, after := _, guard := none } (.bool true) ?_
 try simp only [Act.put, List.setIfInBounds_toArray, List.set_cons_zero, List.set_cons_succ]
 refine wpAnyH_done (by kernel_rfl) ?_ _
 clear hHeld
 go_wp2
 have t0 := HP5.out.cell (i := 0) rfl
 have t1 := HP5.out.cell (i := 1) rfl
 have t2 := HP5.out.cell (i := 2) rfl
 have t3 := HP5.out.cell (i := 3) rfl
 have t4 := HP5.out.cell (i := 4) rfl
 have t5 := HP5.out.cell (i := 5) rfl
 have t6 := HP5.out.cell (i := 6) rfl
 refine bodyPost_ret (v := .tuple #[.agg #[.int .i64 q.n, .slice a1 q.st.r.length c1, .int .i64 q.st.q, .int .i64 q.st.d, .slice a4 q.p.length c4, .slice a5 q.t.length c5, .slice a6 q.a.length c6], .slice a7 u.length c7, .bool true]) (by simp [results, Tryz.results67, go_sem, t0, t1, t2, t3, t4, t5, t6]) rfl ?_
 have hA : outA q p = q ∧ outB q u = u := by unfold outA outB; rw [HOA.out]; exact ⟨rfl, rfl⟩
 rw [hA.1, hA.2, HOA.out]
 have hsx := HT5.out.size
 exact ⟨_, _, rfl, HB5.out.belowT (HT5.out.to_below (fun b e => by omega) (by omega)), (DoR.a2 (DoR.other HD5.out HT5.out (fun k hk => by have := HNR.out k hk; omega) (fun k hk e => by have := owns_lt HH.out.cp.todo hk; omega) (fun k hk e => by have := owns_lt HH.out.cp.antis hk; omega) (fun k hk e => by have := owns_lt HH.out.und hk; omega) (by omega))).mono (fun b hb => ⟨hb.1, by omega⟩)⟩
end Go.Proofs.YtnccenbkpocjgaaGreat
/- The last that was done, taken off what owns it. -/
namespace Go.Proofs.YtnccenbkpocjgaaGreat
open Go.RowKit
theorem psTake {l : List Ps} {j k : Nat} (h : k < j) : psAt (l.take j) k = psAt l k := psAt_take h
theorem past_last {W : World} {A4 : Nat → Prop} {a : Option Addr} {k cap : Nat} {l : List Ps} (hk : k < l.length) (h : OwnD W A4 (.slice a (k + 1) cap) (pastsD (l.take (k + 1)))) :
  ∃ (g : Nat) (u7 u10 u11 : Value) (K7 K10 A4' : Nat → Prop), a = some ⟨g, 0, none⟩ ∧ A4 g ∧ g < W.heap.size ∧ (k + 1 ≤ cap ∧ cap ≤ maxLen) ∧ PsAt W g (k * 12) (psAt l k) u7 u10 u11 ∧ OwnD W K7 u7 (intsD (psAt l k).b.r) ∧ OwnD W K10 u10 (evsD (psAt l k).s) ∧ IsD W u11 (emsD (psAt l k).x) ∧
   (∀ i, i < (k + 1) * 12 → W.frozen? ⟨g, i, none⟩ = false) ∧ (∀ q, K7 q → A4 q ∧ q ≠ g ∧ ¬ A4' q ∧ ¬ K10 q) ∧ (∀ q, K10 q → A4 q ∧ q ≠ g ∧ ¬ A4' q) ∧ (∀ q, A4' q → A4 q) ∧
   (∀ (S : Nat → Prop) (W' : World), Turns S W W' → (∀ i, i < k * 12 → W'.cell? ⟨g, i, none⟩ = W.cell? ⟨g, i, none⟩ ∧ W'.frozen? ⟨g, i, none⟩ = W.frozen? ⟨g, i, none⟩) → (∀ q, A4' q → q ≠ g → ¬ S q) → OwnD W' A4' (.slice (some ⟨g, 0, none⟩) k cap) (pastsD (l.take k))) := by
 have hl : (l.take (k + 1)).length = k + 1 := by rw [List.length_take]; omega
 have hl2 : (l.take k).length = k := by rw [List.length_take]; omega
 have h' : OwnD W A4 (.slice a (k + 1) cap) (.row 12 (k + 1) (pastsD_f (l.take (k + 1)))) := by
  have h9 := h
  unfold pastsD at h9
  rw [hl] at h9
  exact h9
 cases h' with
 | row F g _ _ _ _ U G h1 h2 hg hF hc hs hG hGG =>
  have hcell : ∀ r, r < 12 → W.cell? ⟨g, k * 12 + r, none⟩ = some (U (k * 12 + r)) ∧ OwnD W (G (k * 12 + r)) (U (k * 12 + r)) ((psAt l k).cell r) := fun r hr => by
   refine ⟨(hc (k * 12 + r) (by omega)).1, ?_⟩
   have := hs (k * 12 + r) (by omega)
   rw [pastsD_at _ k hr, psTake (by omega)] at this
   exact this
  have v0 := (hcell 0 (by omega)).2.isD.val_eq
  have v1 := (hcell 1 (by omega)).2.isD.val_eq
  have v2 := (hcell 2 (by omega)).2.isD.val_eq
  have v3 := (hcell 3 (by omega)).2.isD.val_eq
  have v4 := (hcell 4 (by omega)).2.isD.val_eq
  have v5 := (hcell 5 (by omega)).2.isD.val_eq
  have v6 := (hcell 6 (by omega)).2.isD.val_eq
  have v8 := (hcell 8 (by omega)).2.isD.val_eq
  have v9 := (hcell 9 (by omega)).2.isD.val_eq
  refine ⟨g, U (k * 12 + 7), U (k * 12 + 10), U (k * 12 + 11), G (k * 12 + 7), G (k * 12 + 10), fun q => q = g ∨ ∃ j, j < k * 12 ∧ G j q, rfl, hF, hg, ⟨h1, h2⟩,
   ⟨v0 ▸ (hcell 0 (by omega)).1, v1 ▸ (hcell 1 (by omega)).1, v2 ▸ (hcell 2 (by omega)).1, v3 ▸ (hcell 3 (by omega)).1, v4 ▸ (hcell 4 (by omega)).1, v5 ▸ (hcell 5 (by omega)).1, v6 ▸ (hcell 6 (by omega)).1, (hcell 7 (by omega)).1, v8 ▸ (hcell 8 (by omega)).1, v9 ▸ (hcell 9 (by omega)).1, (hcell 10 (by omega)).1, (hcell 11 (by omega)).1⟩,
   (hcell 7 (by omega)).2, (hcell 10 (by omega)).2, (hcell 11 (by omega)).2.isD, fun i hi => (hc i hi).2, fun q hq => ?_, fun q hq => ?_, fun q hq => ?_, ?_⟩
  ·have hh := hG (k * 12 + 7) (by omega) q hq
   refine ⟨hh.1, hh.2, fun e => ?_, hGG (k * 12 + 7) (k * 12 + 10) (by omega) (by omega) (by omega) q hq⟩
   rcases e with e | ⟨j, hj, e⟩
   ·exact hh.2 e
   ·exact hGG (k * 12 + 7) j (by omega) (by omega) (by omega) q hq e
  ·have hh := hG (k * 12 + 10) (by omega) q hq
   refine ⟨hh.1, hh.2, fun e => ?_⟩
   rcases e with e | ⟨j, hj, e⟩
   ·exact hh.2 e
   ·exact hGG (k * 12 + 10) j (by omega) (by omega) (by omega) q hq e
  ·rcases hq with rfl | ⟨j, hj, e⟩
   ·exact hF
   ·exact (hG j (by omega) q e).1
  ·intro S W' ht hlow hS
   unfold pastsD
   rw [hl2]
   by_cases hk0 : k = 0
   ·subst hk0
    exact .nil _ _ _ _ _ h2
   ·refine .row _ g k cap 12 _ U G (by omega) h2 (Nat.lt_of_lt_of_le hg ht.size) (.inl rfl) (fun j hj => ⟨(hlow j hj).1.trans (hc j (by omega)).1, (hlow j hj).2.trans (hc j (by omega)).2⟩) (fun j hj => ?_) (fun j hj q hq => ⟨.inr ⟨j, hj, hq⟩, (hG j (by omega) q hq).2⟩) (fun i j hi hj => hGG i j (by omega) (by omega))
    have hsj := hs j (by omega)
    have e1 : pastsD_f (l.take k) j = pastsD_f (l.take (k + 1)) j := by
     show (psAt (l.take k) (j / 12)).cell (j % 12) = (psAt (l.take (k + 1)) (j / 12)).cell (j % 12)
     rw [psTake (by omega), psTake (by omega)]
    rw [e1]
    exact hsj.turns ht (fun q hq => hS q (.inr ⟨j, hj, hq⟩) (hG j (by omega) q hq).2)
end Go.Proofs.YtnccenbkpocjgaaGreat
/- The last that was done is popped, its state taken over, its event pushed: what the doer is then. -/
namespace Go.Proofs.YtnccenbkpocjgaaGreat
open Go.RowKit
theorem popped {B D g k c4 : Nat} {p : Pa} {vr vt vt' va vu u7 : Value} {A1 A4 K7 K10 A4' : Nat → Prop} {U : List Ev} {W w4 w5 w6 w7 : World} (hk : k < p.p.length)
  (h : DoR B D W vr (.slice (some ⟨g, 0, none⟩) (k + 1) c4) vt va vu A1 A4 (p.back (k + 1)).rev U) (hA4g : A4 g) (hO7 : OwnD W K7 u7 (intsD (psAt p.p k).b.r))
  (hK7 : ∀ q, K7 q → A4 q ∧ q ≠ g ∧ ¬ A4' q ∧ ¬ K10 q) (hA4' : ∀ q, A4' q → A4 q)
  (hrest : ∀ (S : Nat → Prop) (W' : World), Turns S W W' → (∀ i, i < k * 12 → W'.cell? ⟨g, i, none⟩ = W.cell? ⟨g, i, none⟩ ∧ W'.frozen? ⟨g, i, none⟩ = W.frozen? ⟨g, i, none⟩) → (∀ q, A4' q → q ≠ g → ¬ S q) → OwnD W' A4' (.slice (some ⟨g, 0, none⟩) k c4) (pastsD (p.p.take k)))
  (hb4 : Below W.heap.size W w4)
  (hlow : ∀ i, i < k * 12 → w5.cell? ⟨g, i, none⟩ = w4.cell? ⟨g, i, none⟩ ∧ w5.frozen? ⟨g, i, none⟩ = w4.frozen? ⟨g, i, none⟩) (ht5 : Turns (fun q => q = D ∨ q = g) w4 w5)
  (ht6 : Turns (fun q => q = D) w5 w6)
  (hB7 : Bk w7 D 157 #[u7, .int .i64 (psAt p.p k).b.q, .int .i64 (psAt p.p k).b.d, .int .i64 p.n, .slice (some ⟨g, 0, none⟩) k c4, vt', va, vu])
  (ho7 : w7.ownsRow B 55 7 vt' ((p.back (k + 1)).t.reverse ++ [(psAt p.p k).e]).length (cellsL ((p.back (k + 1)).t.reverse ++ [(psAt p.p k).e]))) (hn7 : NewRow w6 vt vt') (ht7 : Turns (fun q => q = D ∨ vt.ownBlock = some q) w6 w7) :
  DoR B D w7 u7 (.slice (some ⟨g, 0, none⟩) k c4) vt' va vu K7 A4' (p.back k).rev U ∧ Turns (fun q => q = D ∨ q = g ∨ vt.ownBlock = some q) W w7 := by
 have hT : Turns (fun q => q = D ∨ q = g ∨ vt.ownBlock = some q) W w7 :=
  (((Turns.of_below hb4).trans (ht5.mono (fun q e => e.elim .inl (fun e => .inr (.inl e))))).trans (ht6.mono (fun q e => .inl e))).trans (ht7.mono (fun q e => e.elim .inl (fun e => .inr (.inr e))))
 have hT6 : Turns (fun q => q = D ∨ q = g) W w6 := ((Turns.of_below hb4).trans ht5).trans (ht6.mono (fun q e => .inl e))
 have hgD : g ≠ D := fun e => h.dD.2 (e ▸ hA4g)
 have hgW : g < W.heap.size := (h.cp.d4 g hA4g).1.2
 have hsz : W.heap.size ≤ w6.heap.size := hT6.size
 have hsz7 : W.heap.size ≤ w7.heap.size := hT.size
 have hvt' : ∀ q, q < W.heap.size → vt'.ownBlock = some q → vt.ownBlock = some q := fun q hq e => by
  rcases hn7 with e1 | e1
  ·rw [← e1]; exact e
  ·have := e1 q e; omega
 have hstk := back_st p hk
 refine ⟨⟨⟨?_, ?_, ?_, ?_, fun q hq => ?_, fun q hq => ?_, fun q hq e => ?_⟩, ?_, ?_, fun q hq => ?_, ⟨fun e => ?_, fun e => ?_⟩, h.lo⟩, hT⟩
 ·show OwnD w7 K7 u7 (intsD (p.back k).st.r)
  rw [hstk]
  exact hO7.turns hT (fun q hq e => by
   have h4 := (hK7 q hq)
   rcases e with e | e | e
   ·exact h.dD.2 (e ▸ h4.1)
   ·exact h4.2.1 e
   ·exact (h.cp.d4 q h4.1).2.1 e)
 ·refine hrest _ w7 hT (fun i hi => ?_) (fun q hq hqg e => ?_)
  ·have h5 := hlow i hi
   have hg4 : g < w4.heap.size := Nat.lt_of_lt_of_le hgW hb4.size
   have hg5 : g < w5.heap.size := Nat.lt_of_lt_of_le hg4 ht5.size
   have hg6 : g < w6.heap.size := Nat.lt_of_lt_of_le hg5 ht6.size
   have hS7 : ¬ (g = D ∨ vt.ownBlock = some g) := fun e => e.elim hgD (h.cp.d4 g hA4g).2.1
   exact ⟨((ht7.cell hg6 hS7).trans (ht6.cell hg5 hgD)).trans (h5.1.trans (hb4.cell (p := ⟨g, i, none⟩) hgW)), ((ht7.frozen hg6 hS7).trans (ht6.frozen hg5 hgD)).trans (h5.2.trans (hb4.frozen (p := ⟨g, i, none⟩) hgW))⟩
  ·rcases e with e | e | e
   ·exact h.dD.2 (e ▸ hA4' q hq)
   ·exact hqg e
   ·exact (h.cp.d4 q (hA4' q hq)).2.1 e
 ·have e1 : (p.back k).rev.t = (p.back (k + 1)).t.reverse ++ [(psAt p.p k).e] := by
   show (p.back k).t.reverse = _
   rw [back_step p hk]
   simp
  rw [e1]
  exact ho7
 ·refine owns_turns h.cp.antis hT (fun q hq e => ?_)
  rcases e with e | e | e
  ·exact h.neT.2.1 (e ▸ hq)
  ·exact (h.cp.d4 g hA4g).2.2 (e ▸ hq)
  ·exact h.cp.d5 q e hq
 ·have h4 := hK7 q hq
  have hd := h.cp.d4 q h4.1
  exact ⟨⟨hd.1.1, by have := hd.1.2; omega⟩, h4.2.2.1, fun e => hd.2.1 (hvt' q hd.1.2 e), hd.2.2⟩
 ·have hd := h.cp.d4 q (hA4' q hq)
  exact ⟨⟨hd.1.1, by have := hd.1.2; omega⟩, fun e => hd.2.1 (hvt' q hd.1.2 e), hd.2.2⟩
 ·have hva := owns_lt h.cp.antis e
  exact h.cp.d5 q (hvt' q hva hq) e
 ·refine owns_turns h.und hT (fun q hq e => ?_)
  rcases e with e | e | e
  ·exact h.neT.2.2 (e ▸ hq)
  ·exact (h.du q hq).2.1 (e ▸ hA4g)
  ·exact (h.du q hq).2.2.1 e
 ·show Bk w7 D 157 #[u7, .int .i64 (p.back k).st.q, .int .i64 (p.back k).st.d, .int .i64 p.n, .slice (some ⟨g, 0, none⟩) k c4, vt', va, vu]
  rw [hstk]
  exact hB7
 ·have hd := h.du q hq
  have hql := owns_lt h.und hq
  exact ⟨fun e => hd.2.1 (hK7 q e).1, fun e => hd.2.1 (hA4' q e), fun e => hd.2.2.1 (hvt' q hql e), hd.2.2.2⟩
 ·exact h.dD.2 (hK7 D e).1
 ·exact h.dD.2 (hA4' D e)
theorem DoR.more {B D : Nat} {w w' : World} {vr vp vt va vu vu' : Value} {A1 A4 : Nat → Prop} {p : Pa} {u : List Ev} {e : Ev} (h : DoR B D w vr vp vt va vu A1 A4 p u) (hB : Bk w' D 157 #[vr, .int .i64 p.st.q, .int .i64 p.st.d, .int .i64 p.n, vp, vt, va, vu'])
  (ho : w'.ownsRow B 55 7 vu' (u ++ [e]).length (cellsL (u ++ [e]))) (hn : NewRow w vu vu') (ht : Turns (fun q => q = D ∨ vu.ownBlock = some q) w w') : DoR B D w' vr vp vt va vu' A1 A4 p (u ++ [e]) := by
 have hvu : ∀ q, q < w.heap.size → vu'.ownBlock = some q → vu.ownBlock = some q := fun q hq e => by
  rcases hn with e1 | e1
  ·rw [← e1]; exact e
  ·have := e1 q e; omega
 refine ⟨h.cp.turns ht (fun q e => ?_), ho, hB, fun q hq => ?_, h.dD, h.lo⟩
 ·rcases e with rfl | e
  ·exact ⟨h.dD.1, h.dD.2, h.neT.1, h.neT.2.1⟩
  ·exact h.du q e
 ·refine ⟨fun e => ?_, fun e => ?_, fun e => ?_, fun e => ?_⟩
  ·exact (h.du q (hvu q (h.cp.d1 q e).1.2 hq)).1 e
  ·exact (h.du q (hvu q (h.cp.d4 q e).1.2 hq)).2.1 e
  ·exact (h.du q (hvu q (owns_lt h.cp.todo e) hq)).2.2.1 e
  ·exact (h.du q (hvu q (owns_lt h.cp.antis e) hq)).2.2.2 e
end Go.Proofs.YtnccenbkpocjgaaGreat
