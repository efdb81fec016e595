/- LawUnhearW -/
import Derived.Test.YtnccenbkpocjgaaGreatExactUnhearG14
import Derived.Test.YtnccenbkpocjgaaGreatExactUnhearLUSr
import Derived.Deep.Cut
import Derived.Deep.RegionHeld3
/- The walk of FnExactUnhear. -/
namespace Go.Proofs.YtnccenbkpocjgaaGreat.LawExactUnhear
open Go.ChangeShapes Go.WideShapes Go.ChangeAt Go.RowKit Go.Proofs.YtnccenbkpocjgaaGreat
theorem thLawUnhearW {P : Program} {md : Region.Mode} {ops : Array Oper} {Q : Exit → Act → World → Prop} {S : World → Prop} {fuel : Nat} {listed : Array Bool} {a : Act} {w : World} (i : Nat) (oi : Oper) (v : Value)
 (h : wpAnyH P md ops Q S fuel (listed.setIfInBounds i true) (a.put oi.dst v) w) (hi : ops[i]? = some oi := by rfl)
 (hs : Region.noSelect ops = true := by kernel_rfl) (hf : Region.free md ops listed i = true := by kernel_rfl) (hr : (Region.ready md ops listed).contains i = true := by kernel_rfl)
 (hQ : ∀ c a w, Q (.panic c) (a.put oi.dst v) w → Q (.panic c) a w := by exact fun _ _ _ h => h)
 (hy : YieldsIf P ops S oi v a := by exact Or.inl ⟨by rfl, by (intro wX hSw; (try dsimp only at hSw); go_simp; (try exact IntWalk.i64_in _ (by omega)))⟩) (hS : S w := by assumption) : wpAnyH P md ops Q S (fuel + 1) listed a w :=
 wpAnyH_take hi hs hf hr hQ hy hS h
theorem hidLawUnhearW {p : Prop} (h : p) : Hid p := h
theorem keepA {w W : World} {p : Pa} {e : Ev} {v1 v4 v5 v6 : Value} (h0 : Bk W w.heap.size 48 #[.int .i64 p.n, v1, .int .i64 p.st.q, .int .i64 p.st.d, v4, v5, v6]) (h1 : Bk W (w.heap.size + 1) 50 #[.int .i64 e.t, .int .i64 e.s, .int .i64 e.q, .int .i64 e.d, .int .i64 e.k, .int .i64 e.v, .int .i64 e.g]) : W.cell? ⟨w.heap.size, 0, none⟩ = some (.int .i64 p.n) ∧ W.cell? ⟨w.heap.size, 1, none⟩ = some v1 ∧ W.cell? ⟨w.heap.size, 2, none⟩ = some (.int .i64 p.st.q) ∧ W.cell? ⟨w.heap.size, 3, none⟩ = some (.int .i64 p.st.d) ∧ W.cell? ⟨w.heap.size, 4, none⟩ = some v4 ∧ W.cell? ⟨w.heap.size, 5, none⟩ = some v5 ∧ W.cell? ⟨w.heap.size, 6, none⟩ = some v6 ∧ W.cell? ⟨w.heap.size + 1, 0, none⟩ = some (.int .i64 e.t) ∧ W.cell? ⟨w.heap.size + 1, 1, none⟩ = some (.int .i64 e.s) ∧ W.cell? ⟨w.heap.size + 1, 2, none⟩ = some (.int .i64 e.q) ∧ W.cell? ⟨w.heap.size + 1, 3, none⟩ = some (.int .i64 e.d) ∧ W.cell? ⟨w.heap.size + 1, 4, none⟩ = some (.int .i64 e.k) ∧ W.cell? ⟨w.heap.size + 1, 5, none⟩ = some (.int .i64 e.v) ∧ W.cell? ⟨w.heap.size + 1, 6, none⟩ = some (.int .i64 e.g) := ⟨h0.cell (i := 0) rfl, h0.cell (i := 1) rfl, h0.cell (i := 2) rfl, h0.cell (i := 3) rfl, h0.cell (i := 4) rfl, h0.cell (i := 5) rfl, h0.cell (i := 6) rfl, h1.cell (i := 0) rfl, h1.cell (i := 1) rfl, h1.cell (i := 2) rfl, h1.cell (i := 3) rfl, h1.cell (i := 4) rfl, h1.cell (i := 5) rfl, h1.cell (i := 6) rfl⟩
theorem keepB {w W : World} {bx : Nat} {p : Pa} {e : Ev} {a1 a4 a5 a6 : Option Addr} {c1 c4 c5 c6 : Nat} (h0 : Bk W bx 33 #[.int .i64 p.n, .slice a1 p.st.r.length c1, .int .i64 p.st.q, .int .i64 p.st.d, .slice a4 p.p.length c4, .slice a5 p.t.length c5, .slice a6 p.a.length c6]) (h1 : Bk W (w.heap.size + 1) 50 #[.int .i64 e.t, .int .i64 e.s, .int .i64 e.q, .int .i64 e.d, .int .i64 e.k, .int .i64 e.v, .int .i64 e.g]) : W.cell? ⟨bx, 0, none⟩ = some (.int .i64 p.n) ∧ W.cell? ⟨bx, 1, none⟩ = some (.slice a1 p.st.r.length c1) ∧ W.cell? ⟨bx, 2, none⟩ = some (.int .i64 p.st.q) ∧ W.cell? ⟨bx, 3, none⟩ = some (.int .i64 p.st.d) ∧ W.cell? ⟨bx, 4, none⟩ = some (.slice a4 p.p.length c4) ∧ W.cell? ⟨bx, 5, none⟩ = some (.slice a5 p.t.length c5) ∧ W.cell? ⟨bx, 6, none⟩ = some (.slice a6 p.a.length c6) ∧ W.cell? ⟨w.heap.size + 1, 0, none⟩ = some (.int .i64 e.t) ∧ W.cell? ⟨w.heap.size + 1, 1, none⟩ = some (.int .i64 e.s) ∧ W.cell? ⟨w.heap.size + 1, 2, none⟩ = some (.int .i64 e.q) ∧ W.cell? ⟨w.heap.size + 1, 3, none⟩ = some (.int .i64 e.d) ∧ W.cell? ⟨w.heap.size + 1, 4, none⟩ = some (.int .i64 e.k) ∧ W.cell? ⟨w.heap.size + 1, 5, none⟩ = some (.int .i64 e.v) ∧ W.cell? ⟨w.heap.size + 1, 6, none⟩ = some (.int .i64 e.g) := ⟨h0.cell (i := 0) rfl, h0.cell (i := 1) rfl, h0.cell (i := 2) rfl, h0.cell (i := 3) rfl, h0.cell (i := 4) rfl, h0.cell (i := 5) rfl, h0.cell (i := 6) rfl, h1.cell (i := 0) rfl, h1.cell (i := 1) rfl, h1.cell (i := 2) rfl, h1.cell (i := 3) rfl, h1.cell (i := 4) rfl, h1.cell (i := 5) rfl, h1.cell (i := 6) rfl⟩
set_option maxRecDepth 100000 in
set_option maxHeartbeats 64000000 in
theorem walk (x : Value) (p : Pa) (e : Ev) (w : World) (hx : IsPart w x p) :
  Calls Tryz.prog 5 #[x, .agg #[.int .i64 e.t, .int .i64 e.s, .int .i64 e.q, .int .i64 e.d, .int .i64 e.k, .int .i64 e.v, .int .i64 e.g]] w fun r w' => r = .returned (.bool true) ∧ Below w.heap.size w w' := by
 have HX : Hid (IsPart w x p) := hx
 obtain ⟨v1, v4, v5, v6, rfl, _⟩ := hx
 obtain ⟨W0, hW0⟩ : ∃ W0, (w.alloc (.cells #[.int .i64 p.n, v1, .int .i64 p.st.q, .int .i64 p.st.d, v4, v5, v6] 48)).alloc (.cells #[.int .i64 e.t, .int .i64 e.s, .int .i64 e.q, .int .i64 e.d, .int .i64 e.k, .int .i64 e.v, .int .i64 e.g] 50) = W0 := ⟨_, rfl⟩
 have HB_W0 : Hid (Below w.heap.size w W0) := by rw [← hW0]; exact ((Below.refl _ w).alloc (Nat.le_refl _) _).alloc (by simp) _
 have HP_W0 : Hid (Bk W0 w.heap.size 48 #[.int .i64 p.n, v1, .int .i64 p.st.q, .int .i64 p.st.d, v4, v5, v6]) := by rw [← hW0]; exact (Bk.new w _ _).alloc _
 have HV_W0 : Hid (Bk W0 (w.heap.size + 1) 50 #[.int .i64 e.t, .int .i64 e.s, .int .i64 e.q, .int .i64 e.d, .int .i64 e.k, .int .i64 e.v, .int .i64 e.g]) := by rw [← hW0]; exact Bk.newAt (by simp) _ _
 have hV0 : w.heap.size + 1 < W0.heap.size := HV_W0.out.lt
 have p0 := HP_W0.out.cell (i := 0) rfl
 have p1 := HP_W0.out.cell (i := 1) rfl
 have p2 := HP_W0.out.cell (i := 2) rfl
 have p3 := HP_W0.out.cell (i := 3) rfl
 have p4 := HP_W0.out.cell (i := 4) rfl
 have p5 := HP_W0.out.cell (i := 5) rfl
 have p6 := HP_W0.out.cell (i := 6) rfl
 go_enter Tryz.func5, Tryz.ntmps5
 go_wp2_with fail
 clear hW0
 clear p0 p1 p2 p3 p4 p5 p6
 refine (szPart_any _ p _ _ (by omega) (by omega) (HX.out.below HB_W0.out)).mono ?_
 rintro r w1 ⟨⟨r1, rfl, hr⟩, hb⟩
 have z_w1 : W0.heap.size ≤ w1.heap.size := hb.size
 have HB_w1 := hidLawUnhearW (HB_W0.out.trans (hb.mono HB_W0.out.size))
 have HP_w1 := hidLawUnhearW (HP_W0.out.below hb)
 have HV_w1 := hidLawUnhearW (HV_W0.out.below hb)
 clear HB_W0 HP_W0 HV_W0
 clear hb
 rcases hr with rfl | ⟨hr0, hr9⟩
 case inl =>
  go_wp2
  go_ret
  exact ⟨rfl, HB_w1.out⟩
 have hr1 : ¬ (r1 < 0) := by omega
 have HSM : Hid (p.wt ≤ 1048576) := by show p.wt ≤ 1048576; omega
 clear hr0 hr9
 have HC : Hid (∃ (A : Pa) (L : List Ev) (b : Bool), (A.wt ≤ 1048576 ∧ (evsD L).wt ≤ 1048576) ∧ (∀ (v0 : Value) (W : World), IsPart W v0 p → Calls Tryz.prog 24 #[v0, .agg #[.int .i64 e.t, .int .i64 e.s, .int .i64 e.q, .int .i64 e.d, .int .i64 e.k, .int .i64 e.v, .int .i64 e.g]] W fun r w' => ∃ y1 y2, r = .returned (.tuple #[y1, y2, .bool b]) ∧ Below W.heap.size W w' ∧ A2 (fun k => W.heap.size ≤ k ∧ k < w'.heap.size) w' y1 y2 A (evsD L)) ∧ (∀ (v0 : Value) (W : World), IsPart W v0 p → Calls Tryz.prog 25 #[v0, .agg #[.int .i64 e.t, .int .i64 e.s, .int .i64 e.q, .int .i64 e.d, .int .i64 e.k, .int .i64 e.v, .int .i64 e.g]] W fun r w' => ∃ y1 y2, r = .returned (.tuple #[y1, y2, .bool b]) ∧ Below W.heap.size W w' ∧ A2 (fun k => W.heap.size ≤ k ∧ k < w'.heap.size) w' y1 y2 A (evsD L))) := ⟨unhA p e, unhB p e, unhC p e, unh_small, fun v0 W h0 => sUnhear v0 p e W HSM.out h0, fun v0 W h0 => iUnhear v0 p e W HSM.out h0⟩
 obtain ⟨A, L, b, ⟨ha, hl⟩, hsp, him⟩ := HC.out
 have HSP := hidLawUnhearW hsp
 have HIM := hidLawUnhearW him
 have HA : Hid (A.wt ≤ 1048576) := ha
 have HL := hidLawUnhearW hl
 clear HC hsp him ha hl
 have p0 := HP_w1.out.cell (i := 0) rfl
 have p1 := HP_w1.out.cell (i := 1) rfl
 have p2 := HP_w1.out.cell (i := 2) rfl
 have p3 := HP_w1.out.cell (i := 3) rfl
 have p4 := HP_w1.out.cell (i := 4) rfl
 have p5 := HP_w1.out.cell (i := 5) rfl
 have p6 := HP_w1.out.cell (i := 6) rfl
 have v0 := HV_w1.out.cell (i := 0) rfl
 have v1 := HV_w1.out.cell (i := 1) rfl
 have v2 := HV_w1.out.cell (i := 2) rfl
 have v3 := HV_w1.out.cell (i := 3) rfl
 have v4 := HV_w1.out.cell (i := 4) rfl
 have v5 := HV_w1.out.cell (i := 5) rfl
 have v6 := HV_w1.out.cell (i := 6) rfl
 go_wp2_with fail
 clear p0 p1 p2 p3 p4 p5 p6
 clear v0 v1 v2 v3 v4 v5 v6
 go_cut [6, 7, 8] from 19 (fun s6 s7 s8 wc => ∃ PP fao fbo fco fdo feo ffo fgo fho gao gbo, s6 = .pointer (some ⟨PP, 0, none⟩) ∧ s7 = .slice gao L.length gbo ∧ s8 = .bool b ∧ Below w1.heap.size w1 wc ∧ (w1.heap.size ≤ PP ∧ PP < wc.heap.size) ∧ Bk wc PP 33 #[.int .i64 A.n, .slice fao A.st.r.length fbo, .int .i64 A.st.q, .int .i64 A.st.d, .slice fco A.p.length fdo, .slice feo A.t.length ffo, .slice fgo A.a.length fho] ∧ A2 (fun k => (w1.heap.size ≤ k ∧ k < wc.heap.size) ∧ k ≠ PP) wc (.agg #[.int .i64 A.n, .slice fao A.st.r.length fbo, .int .i64 A.st.q, .int .i64 A.st.d, .slice fco A.p.length fdo, .slice feo A.t.length ffo, .slice fgo A.a.length fho]) (.slice gao L.length gbo) A (evsD L))
 case first =>
  refine wp_region_held_drew (S := fun W => W.cell? ⟨w.heap.size, 0, none⟩ = some (.int .i64 p.n) ∧ W.cell? ⟨w.heap.size, 1, none⟩ = some v1 ∧ W.cell? ⟨w.heap.size, 2, none⟩ = some (.int .i64 p.st.q) ∧ W.cell? ⟨w.heap.size, 3, none⟩ = some (.int .i64 p.st.d) ∧ W.cell? ⟨w.heap.size, 4, none⟩ = some v4 ∧ W.cell? ⟨w.heap.size, 5, none⟩ = some v5 ∧ W.cell? ⟨w.heap.size, 6, none⟩ = some v6 ∧ W.cell? ⟨w.heap.size + 1, 0, none⟩ = some (.int .i64 e.t) ∧ W.cell? ⟨w.heap.size + 1, 1, none⟩ = some (.int .i64 e.s) ∧ W.cell? ⟨w.heap.size + 1, 2, none⟩ = some (.int .i64 e.q) ∧ W.cell? ⟨w.heap.size + 1, 3, none⟩ = some (.int .i64 e.d) ∧ W.cell? ⟨w.heap.size + 1, 4, none⟩ = some (.int .i64 e.k) ∧ W.cell? ⟨w.heap.size + 1, 5, none⟩ = some (.int .i64 e.v) ∧ W.cell? ⟨w.heap.size + 1, 6, none⟩ = some (.int .i64 e.g)) (by kernel_rfl) (keepA (HP_w1.out.below (Below.refl w1.heap.size w1).drew) (HV_w1.out.below (Below.refl w1.heap.size w1).drew)) (fun hHeld => ?_)
  refine thLawUnhearW 0 { dst := some 25, op := Op.load 48 (Operand.tmp 2), type := 48, pos := _, after := _, guard := none } (.agg #[.int .i64 p.n, v1, .int .i64 p.st.q, .int .i64 p.st.d, v4, v5, v6]) ?_
  try simp only [Act.put, List.setIfInBounds_toArray, List.set_cons_zero, List.set_cons_succ]
  refine thLawUnhearW 2 { dst := some 27, op := Op.load 50 (Operand.tmp 3), type := 50, pos := _, after := _, guard := none } (.agg #[.int .i64 e.t, .int .i64 e.s, .int .i64 e.q, .int .i64 e.d, .int .i64 e.k, .int .i64 e.v, .int .i64 e.g]) ?_
  try simp only [Act.put, List.setIfInBounds_toArray, List.set_cons_zero, List.set_cons_succ]
  refine wpAnyH_ready (rs := [1, 9]) (by kernel_rfl) (by simp) ?_
  refine AllReadyH.cons (o := { dst := some 26, op := Op.call { callee := Callee.value (Operand.func 18), args := #[Operand.tmp 25], argTypes := #[48] }, type := 33, pos := _, after := _, guard := none }) rfl (fun K hK => ?_) (AllReadyH.cons (o := { dst := some 6, op := Op.alloc 33, type := 0, pos := _, after := _, guard := none }) rfl (fun K hK => ?_) AllReadyH.nil)
  ·go_simp
   refine (toPart_any _ p _ HSM.out (HX.out.below (HB_w1.out.trans (((Below.refl w1.heap.size w1).drew).mono HB_w1.out.size)))).mono ?_
   rintro r wa ⟨ya, rfl, hb, hra⟩
   have hk0 : Below w1.heap.size w1 wa := ((Below.refl w1.heap.size w1).drew).trans (hb.mono ((Below.refl w1.heap.size w1).drew).size)
   have HYA0 : Hid (IsPart wa ya p) := hra.is
   clear hb
   try go_simp
   refine hK.out _ _ (keepA (HP_w1.out.below hk0) (HV_w1.out.below hk0)) (fun hHeld => ?_)
   clear hK K
   try simp only [Act.put, List.setIfInBounds_toArray, List.set_cons_zero, List.set_cons_succ]
   refine wpAnyH_ready (rs := [3, 9]) (by kernel_rfl) (by simp) ?_
   refine AllReadyH.cons (o := { dst := some 28, op := Op.call { callee := Callee.value (Operand.func 19), args := #[Operand.tmp 27], argTypes := #[50] }, type := 55, pos := _, after := _, guard := none }) rfl (fun K hK => ?_) (AllReadyH.cons (o := { dst := some 6, op := Op.alloc 33, type := 0, pos := _, after := _, guard := none }) rfl (fun K hK => ?_) AllReadyH.nil)
   ·go_simp
    refine (toEvent_any e.t e.s e.q e.d e.k e.v e.g _).mono ?_
    rintro r wf ⟨rfl, hb⟩
    have hk1 : Below w1.heap.size w1 wf := (hk0).trans (hb.mono (hk0).size)
    have HYA1 : Hid (IsPart wf ya p) := HYA0.out.below hb
    clear hb
    try go_simp
    refine hK.out _ _ (keepA (HP_w1.out.below hk1) (HV_w1.out.below hk1)) (fun hHeld => ?_)
    clear hK K
    try simp only [Act.put, List.setIfInBounds_toArray, List.set_cons_zero, List.set_cons_succ]
    refine wpAnyH_ready (rs := [4, 9]) (by kernel_rfl) (by simp) ?_
    refine AllReadyH.cons (o := { dst := some 29, op := Op.call { callee := Callee.value (Operand.func 24), args := #[Operand.tmp 26, Operand.tmp 28], argTypes := #[33, 55] }, type := 52, pos := _, after := _, guard := none }) rfl (fun K hK => ?_) (AllReadyH.cons (o := { dst := some 6, op := Op.alloc 33, type := 0, pos := _, after := _, guard := none }) rfl (fun K hK => ?_) AllReadyH.nil)
    ·go_simp
     have hcW : w1.heap.size ≤ wf.heap.size := (hk1).size
     refine (HSP.out _ _ HYA1.out).mono ?_
     rintro r we ⟨ye, le, rfl, hb, hue⟩
     obtain ⟨fao, fbo, fco, fdo, feo, ffo, fgo, fho, gao, gbo, rfl, rfl⟩ := A2.form (c := 7) (n := L.length) hue
     have hk2 : Below w1.heap.size w1 we := (hk1).trans (hb.mono (hk1).size)
     have HU := hidLawUnhearW hue
     clear hb
     try go_simp
     refine hK.out _ _ (keepA (HP_w1.out.below hk2) (HV_w1.out.below hk2)) (fun hHeld => ?_)
     clear hK K
     try simp only [Act.put, List.setIfInBounds_toArray, List.set_cons_zero, List.set_cons_succ]
     refine thLawUnhearW 5 { dst := some 24, op := Op.move (Operand.tmp 29), type := 52, pos := _, after := _, guard := none } (.tuple #[.agg #[.int .i64 A.n, .slice fao A.st.r.length fbo, .int .i64 A.st.q, .int .i64 A.st.d, .slice fco A.p.length fdo, .slice feo A.t.length ffo, .slice fgo A.a.length fho], .slice gao L.length gbo, .bool b]) ?_
     try simp only [Act.put, List.setIfInBounds_toArray, List.set_cons_zero, List.set_cons_succ]
     refine thLawUnhearW 6 { dst := some 30, op := Op.extract (Operand.tmp 24) 0, type := 33, pos := _, after := _, guard := none } (.agg #[.int .i64 A.n, .slice fao A.st.r.length fbo, .int .i64 A.st.q, .int .i64 A.st.d, .slice fco A.p.length fdo, .slice feo A.t.length ffo, .slice fgo A.a.length fho]) ?_
     try simp only [Act.put, List.setIfInBounds_toArray, List.set_cons_zero, List.set_cons_succ]
     refine thLawUnhearW 7 { dst := some 31, op := Op.extract (Operand.tmp 24) 1, type := 31, pos := _, after := _, guard := none } (.slice gao L.length gbo) ?_
     try simp only [Act.put, List.setIfInBounds_toArray, List.set_cons_zero, List.set_cons_succ]
     refine thLawUnhearW 8 { dst := some 32, op := Op.extract (Operand.tmp 24) 2, type := 4, pos := _, after := _, guard := none } (.bool b) ?_
     try simp only [Act.put, List.setIfInBounds_toArray, List.set_cons_zero, List.set_cons_succ]
     refine wpAnyH_ready (rs := [9]) (by kernel_rfl) (by simp) ?_
     refine AllReadyH.cons (o := { dst := some 6, op := Op.alloc 33, type := 0, pos := _, after := _, guard := none }) rfl (fun K hK => ?_) AllReadyH.nil
     go_simp
     refine hK.out _ _ (keepA (HP_w1.out.below ((hk2).alloc (hk2).size (.cells #[.int .i64 0, .slice none 0 0, .int .i64 0, .int .i64 0, .slice none 0 0, .slice none 0 0, .slice none 0 0] 33))) (HV_w1.out.below ((hk2).alloc (hk2).size (.cells #[.int .i64 0, .slice none 0 0, .int .i64 0, .int .i64 0, .slice none 0 0, .slice none 0 0, .slice none 0 0] 33)))) (fun hHeld => ?_)
     clear hK K
     try simp only [Act.put, List.setIfInBounds_toArray, List.set_cons_zero, List.set_cons_succ]
     refine wpAnyH_ready (rs := [10]) (by kernel_rfl) (by simp) ?_
     refine AllReadyH.cons (o := { dst := none, op := Op.store 33 (Operand.tmp 6) (Operand.tmp 30), type := 0, pos := _, after := _, guard := none }) rfl (fun K hK => ?_) AllReadyH.nil
     go_simp
     refine hK.out _ _ (keepA (HP_w1.out.below (hk2.alloc hk2.size (.cells #[.int .i64 A.n, .slice fao A.st.r.length fbo, .int .i64 A.st.q, .int .i64 A.st.d, .slice fco A.p.length fdo, .slice feo A.t.length ffo, .slice fgo A.a.length fho] 33))) (HV_w1.out.below (hk2.alloc hk2.size (.cells #[.int .i64 A.n, .slice fao A.st.r.length fbo, .int .i64 A.st.q, .int .i64 A.st.d, .slice fco A.p.length fdo, .slice feo A.t.length ffo, .slice fgo A.a.length fho] 33)))) (fun hHeld => ?_)
     clear hK K
     try simp only [Act.put, List.setIfInBounds_toArray, List.set_cons_zero, List.set_cons_succ]
     refine thLawUnhearW 11 { dst := some 7, op := Op.assign (Operand.tmp 31), type := 31, pos := _, after := _, guard := none } (.slice gao L.length gbo) ?_
     try simp only [Act.put, List.setIfInBounds_toArray, List.set_cons_zero, List.set_cons_succ]
     refine thLawUnhearW 12 { dst := some 8, op := Op.assign (Operand.tmp 32), type := 4, pos := _, after := _, guard := none } (.bool b) ?_
     try simp only [Act.put, List.setIfInBounds_toArray, List.set_cons_zero, List.set_cons_succ]
     refine wpAnyH_done (by kernel_rfl) ?_ _
     go_wp2
     go_meet
     case rel =>
      exact ⟨_, fao, fbo, fco, fdo, feo, ffo, fgo, fho, gao, gbo, rfl, rfl, rfl, (hk2.alloc hk2.size (.cells #[.int .i64 A.n, .slice fao A.st.r.length fbo, .int .i64 A.st.q, .int .i64 A.st.d, .slice fco A.p.length fdo, .slice feo A.t.length ffo, .slice fgo A.a.length fho] 33)), ⟨hk2.size, (Bk.new we 33 #[.int .i64 A.n, .slice fao A.st.r.length fbo, .int .i64 A.st.q, .int .i64 A.st.d, .slice fco A.p.length fdo, .slice feo A.t.length ffo, .slice fgo A.a.length fho]).lt⟩, Bk.new we 33 #[.int .i64 A.n, .slice fao A.st.r.length fbo, .int .i64 A.st.q, .int .i64 A.st.d, .slice fco A.p.length fdo, .slice feo A.t.length ffo, .slice fgo A.a.length fho], (HU.out.below ((Below.refl _ we).alloc (Nat.le_refl _) _)).mono (fun k e => ⟨⟨by omega, by simp; omega⟩, by omega⟩)⟩
    ·go_simp
     refine hK.out _ _ (keepA (HP_w1.out.below ((hk1).alloc (hk1).size (.cells #[.int .i64 0, .slice none 0 0, .int .i64 0, .int .i64 0, .slice none 0 0, .slice none 0 0, .slice none 0 0] 33))) (HV_w1.out.below ((hk1).alloc (hk1).size (.cells #[.int .i64 0, .slice none 0 0, .int .i64 0, .int .i64 0, .slice none 0 0, .slice none 0 0, .slice none 0 0] 33)))) (fun hHeld => ?_)
     clear hK K
     try simp only [Act.put, List.setIfInBounds_toArray, List.set_cons_zero, List.set_cons_succ]
     refine wpAnyH_ready (rs := [4]) (by kernel_rfl) (by simp) ?_
     refine AllReadyH.cons (o := { dst := some 29, op := Op.call { callee := Callee.value (Operand.func 24), args := #[Operand.tmp 26, Operand.tmp 28], argTypes := #[33, 55] }, type := 52, pos := _, after := _, guard := none }) rfl (fun K hK => ?_) AllReadyH.nil
     go_simp
     have hcW : w1.heap.size ≤ (wf.alloc (.cells #[.int .i64 0, .slice none 0 0, .int .i64 0, .int .i64 0, .slice none 0 0, .slice none 0 0, .slice none 0 0] 33)).heap.size := (((hk1).alloc (hk1).size (.cells #[.int .i64 0, .slice none 0 0, .int .i64 0, .int .i64 0, .slice none 0 0, .slice none 0 0, .slice none 0 0] 33))).size
     have hPW : wf.heap.size < (wf.alloc (.cells #[.int .i64 0, .slice none 0 0, .int .i64 0, .int .i64 0, .slice none 0 0, .slice none 0 0, .slice none 0 0] 33)).heap.size := ((Bk.new wf 33 #[.int .i64 0, .slice none 0 0, .int .i64 0, .int .i64 0, .slice none 0 0, .slice none 0 0, .slice none 0 0] : Bk (wf.alloc (.cells #[.int .i64 0, .slice none 0 0, .int .i64 0, .int .i64 0, .slice none 0 0, .slice none 0 0, .slice none 0 0] 33)) wf.heap.size 33 #[.int .i64 0, .slice none 0 0, .int .i64 0, .int .i64 0, .slice none 0 0, .slice none 0 0, .slice none 0 0])).lt
     refine (HSP.out _ _ (HYA1.out.below ((Below.refl _ wf).alloc (Nat.le_refl _) _))).mono ?_
     rintro r we ⟨ye, le, rfl, hb, hue⟩
     obtain ⟨fao, fbo, fco, fdo, feo, ffo, fgo, fho, gao, gbo, rfl, rfl⟩ := A2.form (c := 7) (n := L.length) hue
     have hk2 : Below w1.heap.size w1 we := (((hk1).alloc (hk1).size (.cells #[.int .i64 0, .slice none 0 0, .int .i64 0, .int .i64 0, .slice none 0 0, .slice none 0 0, .slice none 0 0] 33))).trans (hb.mono (((hk1).alloc (hk1).size (.cells #[.int .i64 0, .slice none 0 0, .int .i64 0, .int .i64 0, .slice none 0 0, .slice none 0 0, .slice none 0 0] 33))).size)
     have hz2 : Bk we wf.heap.size 33 #[.int .i64 0, .slice none 0 0, .int .i64 0, .int .i64 0, .slice none 0 0, .slice none 0 0, .slice none 0 0] := ((Bk.new wf 33 #[.int .i64 0, .slice none 0 0, .int .i64 0, .int .i64 0, .slice none 0 0, .slice none 0 0, .slice none 0 0] : Bk (wf.alloc (.cells #[.int .i64 0, .slice none 0 0, .int .i64 0, .int .i64 0, .slice none 0 0, .slice none 0 0, .slice none 0 0] 33)) wf.heap.size 33 #[.int .i64 0, .slice none 0 0, .int .i64 0, .int .i64 0, .slice none 0 0, .slice none 0 0, .slice none 0 0])).below hb
     have HU := hidLawUnhearW hue
     clear hb
     try go_simp
     refine hK.out _ _ (keepA (HP_w1.out.below hk2) (HV_w1.out.below hk2)) (fun hHeld => ?_)
     clear hK K
     try simp only [Act.put, List.setIfInBounds_toArray, List.set_cons_zero, List.set_cons_succ]
     refine thLawUnhearW 5 { dst := some 24, op := Op.move (Operand.tmp 29), type := 52, pos := _, after := _, guard := none } (.tuple #[.agg #[.int .i64 A.n, .slice fao A.st.r.length fbo, .int .i64 A.st.q, .int .i64 A.st.d, .slice fco A.p.length fdo, .slice feo A.t.length ffo, .slice fgo A.a.length fho], .slice gao L.length gbo, .bool b]) ?_
     try simp only [Act.put, List.setIfInBounds_toArray, List.set_cons_zero, List.set_cons_succ]
     refine thLawUnhearW 6 { dst := some 30, op := Op.extract (Operand.tmp 24) 0, type := 33, pos := _, after := _, guard := none } (.agg #[.int .i64 A.n, .slice fao A.st.r.length fbo, .int .i64 A.st.q, .int .i64 A.st.d, .slice fco A.p.length fdo, .slice feo A.t.length ffo, .slice fgo A.a.length fho]) ?_
     try simp only [Act.put, List.setIfInBounds_toArray, List.set_cons_zero, List.set_cons_succ]
     refine thLawUnhearW 7 { dst := some 31, op := Op.extract (Operand.tmp 24) 1, type := 31, pos := _, after := _, guard := none } (.slice gao L.length gbo) ?_
     try simp only [Act.put, List.setIfInBounds_toArray, List.set_cons_zero, List.set_cons_succ]
     refine thLawUnhearW 8 { dst := some 32, op := Op.extract (Operand.tmp 24) 2, type := 4, pos := _, after := _, guard := none } (.bool b) ?_
     try simp only [Act.put, List.setIfInBounds_toArray, List.set_cons_zero, List.set_cons_succ]
     have zc0 := hz2.cell (i := 0) rfl
     have zc1 := hz2.cell (i := 1) rfl
     have zc2 := hz2.cell (i := 2) rfl
     have zc3 := hz2.cell (i := 3) rfl
     have zc4 := hz2.cell (i := 4) rfl
     have zc5 := hz2.cell (i := 5) rfl
     have zc6 := hz2.cell (i := 6) rfl
     have zf := hz2.free
     have hPlo : w1.heap.size ≤ wf.heap.size := (hk1).size
     have hpt := put7s_turns we (wf.heap.size) (.int .i64 A.n) (.slice fao A.st.r.length fbo) (.int .i64 A.st.q) (.int .i64 A.st.d) (.slice fco A.p.length fdo) (.slice feo A.t.length ffo) (.slice fgo A.a.length fho)
     have T3 : Below w1.heap.size w1 (put7s we (wf.heap.size) (.int .i64 A.n) (.slice fao A.st.r.length fbo) (.int .i64 A.st.q) (.int .i64 A.st.d) (.slice fco A.p.length fdo) (.slice feo A.t.length ffo) (.slice fgo A.a.length fho)) := hk2.trans (hpt.to_below (fun k e => by rw [show k = wf.heap.size from e]; exact hPlo) hk2.size)
     refine wpAnyH_ready (rs := [10]) (by kernel_rfl) (by simp) ?_
     refine AllReadyH.cons (o := { dst := none, op := Op.store 33 (Operand.tmp 6) (Operand.tmp 30), type := 0, pos := _, after := _, guard := none }) rfl (fun K hK => ?_) AllReadyH.nil
     go_simp
     refine hK.out _ _ (keepA (HP_w1.out.below T3) (HV_w1.out.below T3)) (fun hHeld => ?_)
     clear hK K
     try simp only [Act.put, List.setIfInBounds_toArray, List.set_cons_zero, List.set_cons_succ]
     refine thLawUnhearW 11 { dst := some 7, op := Op.assign (Operand.tmp 31), type := 31, pos := _, after := _, guard := none } (.slice gao L.length gbo) ?_
     try simp only [Act.put, List.setIfInBounds_toArray, List.set_cons_zero, List.set_cons_succ]
     refine thLawUnhearW 12 { dst := some 8, op := Op.assign (Operand.tmp 32), type := 4, pos := _, after := _, guard := none } (.bool b) ?_
     try simp only [Act.put, List.setIfInBounds_toArray, List.set_cons_zero, List.set_cons_succ]
     refine wpAnyH_done (by kernel_rfl) ?_ _
     go_wp2
     go_meet
     case rel =>
      exact ⟨_, fao, fbo, fco, fdo, feo, ffo, fgo, fho, gao, gbo, rfl, rfl, rfl, T3, ⟨hPlo, (hz2.put7s (.int .i64 A.n) (.slice fao A.st.r.length fbo) (.int .i64 A.st.q) (.int .i64 A.st.d) (.slice fco A.p.length fdo) (.slice feo A.t.length ffo) (.slice fgo A.a.length fho)).lt⟩, hz2.put7s (.int .i64 A.n) (.slice fao A.st.r.length fbo) (.int .i64 A.st.q) (.int .i64 A.st.d) (.slice fco A.p.length fdo) (.slice feo A.t.length ffo) (.slice fgo A.a.length fho), (HU.out.turns hpt (fun k e1 e2 => by have e3 : k = wf.heap.size := e2; omega)).mono (fun k e => ⟨⟨by omega, Nat.lt_of_lt_of_le e.2 hpt.size⟩, by omega⟩)⟩
   ·go_simp
    refine hK.out _ _ (keepA (HP_w1.out.below ((hk0).alloc (hk0).size (.cells #[.int .i64 0, .slice none 0 0, .int .i64 0, .int .i64 0, .slice none 0 0, .slice none 0 0, .slice none 0 0] 33))) (HV_w1.out.below ((hk0).alloc (hk0).size (.cells #[.int .i64 0, .slice none 0 0, .int .i64 0, .int .i64 0, .slice none 0 0, .slice none 0 0, .slice none 0 0] 33)))) (fun hHeld => ?_)
    clear hK K
    try simp only [Act.put, List.setIfInBounds_toArray, List.set_cons_zero, List.set_cons_succ]
    refine wpAnyH_ready (rs := [3]) (by kernel_rfl) (by simp) ?_
    refine AllReadyH.cons (o := { dst := some 28, op := Op.call { callee := Callee.value (Operand.func 19), args := #[Operand.tmp 27], argTypes := #[50] }, type := 55, pos := _, after := _, guard := none }) rfl (fun K hK => ?_) AllReadyH.nil
    go_simp
    refine (toEvent_any e.t e.s e.q e.d e.k e.v e.g _).mono ?_
    rintro r wf ⟨rfl, hb⟩
    have hk1 : Below w1.heap.size w1 wf := (((hk0).alloc (hk0).size (.cells #[.int .i64 0, .slice none 0 0, .int .i64 0, .int .i64 0, .slice none 0 0, .slice none 0 0, .slice none 0 0] 33))).trans (hb.mono (((hk0).alloc (hk0).size (.cells #[.int .i64 0, .slice none 0 0, .int .i64 0, .int .i64 0, .slice none 0 0, .slice none 0 0, .slice none 0 0] 33))).size)
    have hz1 : Bk wf wa.heap.size 33 #[.int .i64 0, .slice none 0 0, .int .i64 0, .int .i64 0, .slice none 0 0, .slice none 0 0, .slice none 0 0] := ((Bk.new wa 33 #[.int .i64 0, .slice none 0 0, .int .i64 0, .int .i64 0, .slice none 0 0, .slice none 0 0, .slice none 0 0] : Bk (wa.alloc (.cells #[.int .i64 0, .slice none 0 0, .int .i64 0, .int .i64 0, .slice none 0 0, .slice none 0 0, .slice none 0 0] 33)) wa.heap.size 33 #[.int .i64 0, .slice none 0 0, .int .i64 0, .int .i64 0, .slice none 0 0, .slice none 0 0, .slice none 0 0])).below hb
    have HYA1 : Hid (IsPart wf ya p) := (HYA0.out.below ((Below.refl _ wa).alloc (Nat.le_refl _) _)).below hb
    clear hb
    try go_simp
    refine hK.out _ _ (keepA (HP_w1.out.below hk1) (HV_w1.out.below hk1)) (fun hHeld => ?_)
    clear hK K
    try simp only [Act.put, List.setIfInBounds_toArray, List.set_cons_zero, List.set_cons_succ]
    refine wpAnyH_ready (rs := [4]) (by kernel_rfl) (by simp) ?_
    refine AllReadyH.cons (o := { dst := some 29, op := Op.call { callee := Callee.value (Operand.func 24), args := #[Operand.tmp 26, Operand.tmp 28], argTypes := #[33, 55] }, type := 52, pos := _, after := _, guard := none }) rfl (fun K hK => ?_) AllReadyH.nil
    go_simp
    have hcW : w1.heap.size ≤ wf.heap.size := (hk1).size
    have hPW : wa.heap.size < wf.heap.size := (hz1).lt
    refine (HSP.out _ _ HYA1.out).mono ?_
    rintro r we ⟨ye, le, rfl, hb, hue⟩
    obtain ⟨fao, fbo, fco, fdo, feo, ffo, fgo, fho, gao, gbo, rfl, rfl⟩ := A2.form (c := 7) (n := L.length) hue
    have hk2 : Below w1.heap.size w1 we := (hk1).trans (hb.mono (hk1).size)
    have hz2 : Bk we wa.heap.size 33 #[.int .i64 0, .slice none 0 0, .int .i64 0, .int .i64 0, .slice none 0 0, .slice none 0 0, .slice none 0 0] := (hz1).below hb
    have HU := hidLawUnhearW hue
    clear hb
    try go_simp
    refine hK.out _ _ (keepA (HP_w1.out.below hk2) (HV_w1.out.below hk2)) (fun hHeld => ?_)
    clear hK K
    try simp only [Act.put, List.setIfInBounds_toArray, List.set_cons_zero, List.set_cons_succ]
    refine thLawUnhearW 5 { dst := some 24, op := Op.move (Operand.tmp 29), type := 52, pos := _, after := _, guard := none } (.tuple #[.agg #[.int .i64 A.n, .slice fao A.st.r.length fbo, .int .i64 A.st.q, .int .i64 A.st.d, .slice fco A.p.length fdo, .slice feo A.t.length ffo, .slice fgo A.a.length fho], .slice gao L.length gbo, .bool b]) ?_
    try simp only [Act.put, List.setIfInBounds_toArray, List.set_cons_zero, List.set_cons_succ]
    refine thLawUnhearW 6 { dst := some 30, op := Op.extract (Operand.tmp 24) 0, type := 33, pos := _, after := _, guard := none } (.agg #[.int .i64 A.n, .slice fao A.st.r.length fbo, .int .i64 A.st.q, .int .i64 A.st.d, .slice fco A.p.length fdo, .slice feo A.t.length ffo, .slice fgo A.a.length fho]) ?_
    try simp only [Act.put, List.setIfInBounds_toArray, List.set_cons_zero, List.set_cons_succ]
    refine thLawUnhearW 7 { dst := some 31, op := Op.extract (Operand.tmp 24) 1, type := 31, pos := _, after := _, guard := none } (.slice gao L.length gbo) ?_
    try simp only [Act.put, List.setIfInBounds_toArray, List.set_cons_zero, List.set_cons_succ]
    refine thLawUnhearW 8 { dst := some 32, op := Op.extract (Operand.tmp 24) 2, type := 4, pos := _, after := _, guard := none } (.bool b) ?_
    try simp only [Act.put, List.setIfInBounds_toArray, List.set_cons_zero, List.set_cons_succ]
    have zc0 := hz2.cell (i := 0) rfl
    have zc1 := hz2.cell (i := 1) rfl
    have zc2 := hz2.cell (i := 2) rfl
    have zc3 := hz2.cell (i := 3) rfl
    have zc4 := hz2.cell (i := 4) rfl
    have zc5 := hz2.cell (i := 5) rfl
    have zc6 := hz2.cell (i := 6) rfl
    have zf := hz2.free
    have hPlo : w1.heap.size ≤ wa.heap.size := (hk0).size
    have hpt := put7s_turns we (wa.heap.size) (.int .i64 A.n) (.slice fao A.st.r.length fbo) (.int .i64 A.st.q) (.int .i64 A.st.d) (.slice fco A.p.length fdo) (.slice feo A.t.length ffo) (.slice fgo A.a.length fho)
    have T3 : Below w1.heap.size w1 (put7s we (wa.heap.size) (.int .i64 A.n) (.slice fao A.st.r.length fbo) (.int .i64 A.st.q) (.int .i64 A.st.d) (.slice fco A.p.length fdo) (.slice feo A.t.length ffo) (.slice fgo A.a.length fho)) := hk2.trans (hpt.to_below (fun k e => by rw [show k = wa.heap.size from e]; exact hPlo) hk2.size)
    refine wpAnyH_ready (rs := [10]) (by kernel_rfl) (by simp) ?_
    refine AllReadyH.cons (o := { dst := none, op := Op.store 33 (Operand.tmp 6) (Operand.tmp 30), type := 0, pos := _, after := _, guard := none }) rfl (fun K hK => ?_) AllReadyH.nil
    go_simp
    refine hK.out _ _ (keepA (HP_w1.out.below T3) (HV_w1.out.below T3)) (fun hHeld => ?_)
    clear hK K
    try simp only [Act.put, List.setIfInBounds_toArray, List.set_cons_zero, List.set_cons_succ]
    refine thLawUnhearW 11 { dst := some 7, op := Op.assign (Operand.tmp 31), type := 31, pos := _, after := _, guard := none } (.slice gao L.length gbo) ?_
    try simp only [Act.put, List.setIfInBounds_toArray, List.set_cons_zero, List.set_cons_succ]
    refine thLawUnhearW 12 { dst := some 8, op := Op.assign (Operand.tmp 32), type := 4, pos := _, after := _, guard := none } (.bool b) ?_
    try simp only [Act.put, List.setIfInBounds_toArray, List.set_cons_zero, List.set_cons_succ]
    refine wpAnyH_done (by kernel_rfl) ?_ _
    go_wp2
    go_meet
    case rel =>
     exact ⟨_, fao, fbo, fco, fdo, feo, ffo, fgo, fho, gao, gbo, rfl, rfl, rfl, T3, ⟨hPlo, (hz2.put7s (.int .i64 A.n) (.slice fao A.st.r.length fbo) (.int .i64 A.st.q) (.int .i64 A.st.d) (.slice fco A.p.length fdo) (.slice feo A.t.length ffo) (.slice fgo A.a.length fho)).lt⟩, hz2.put7s (.int .i64 A.n) (.slice fao A.st.r.length fbo) (.int .i64 A.st.q) (.int .i64 A.st.d) (.slice fco A.p.length fdo) (.slice feo A.t.length ffo) (.slice fgo A.a.length fho), (HU.out.turns hpt (fun k e1 e2 => by have e3 : k = wa.heap.size := e2; omega)).mono (fun k e => ⟨⟨by omega, Nat.lt_of_lt_of_le e.2 hpt.size⟩, by omega⟩)⟩
  ·go_simp
   refine hK.out _ _ (keepA (HP_w1.out.below (((Below.refl w1.heap.size w1).drew).alloc ((Below.refl w1.heap.size w1).drew).size (.cells #[.int .i64 0, .slice none 0 0, .int .i64 0, .int .i64 0, .slice none 0 0, .slice none 0 0, .slice none 0 0] 33))) (HV_w1.out.below (((Below.refl w1.heap.size w1).drew).alloc ((Below.refl w1.heap.size w1).drew).size (.cells #[.int .i64 0, .slice none 0 0, .int .i64 0, .int .i64 0, .slice none 0 0, .slice none 0 0, .slice none 0 0] 33)))) (fun hHeld => ?_)
   clear hK K
   try simp only [Act.put, List.setIfInBounds_toArray, List.set_cons_zero, List.set_cons_succ]
   refine wpAnyH_ready (rs := [1]) (by kernel_rfl) (by simp) ?_
   refine AllReadyH.cons (o := { dst := some 26, op := Op.call { callee := Callee.value (Operand.func 18), args := #[Operand.tmp 25], argTypes := #[48] }, type := 33, pos := _, after := _, guard := none }) rfl (fun K hK => ?_) AllReadyH.nil
   go_simp
   refine (toPart_any _ p _ HSM.out (HX.out.below (HB_w1.out.trans (((((Below.refl w1.heap.size w1).drew).alloc ((Below.refl w1.heap.size w1).drew).size (.cells #[.int .i64 0, .slice none 0 0, .int .i64 0, .int .i64 0, .slice none 0 0, .slice none 0 0, .slice none 0 0] 33))).mono HB_w1.out.size)))).mono ?_
   rintro r wa ⟨ya, rfl, hb, hra⟩
   have hk0 : Below w1.heap.size w1 wa := ((((Below.refl w1.heap.size w1).drew).alloc ((Below.refl w1.heap.size w1).drew).size (.cells #[.int .i64 0, .slice none 0 0, .int .i64 0, .int .i64 0, .slice none 0 0, .slice none 0 0, .slice none 0 0] 33))).trans (hb.mono ((((Below.refl w1.heap.size w1).drew).alloc ((Below.refl w1.heap.size w1).drew).size (.cells #[.int .i64 0, .slice none 0 0, .int .i64 0, .int .i64 0, .slice none 0 0, .slice none 0 0, .slice none 0 0] 33))).size)
   have hz0 : Bk wa w1.heap.size 33 #[.int .i64 0, .slice none 0 0, .int .i64 0, .int .i64 0, .slice none 0 0, .slice none 0 0, .slice none 0 0] := ((Bk.new w1.drew 33 #[.int .i64 0, .slice none 0 0, .int .i64 0, .int .i64 0, .slice none 0 0, .slice none 0 0, .slice none 0 0] : Bk (w1.drew.alloc (.cells #[.int .i64 0, .slice none 0 0, .int .i64 0, .int .i64 0, .slice none 0 0, .slice none 0 0, .slice none 0 0] 33)) w1.heap.size 33 #[.int .i64 0, .slice none 0 0, .int .i64 0, .int .i64 0, .slice none 0 0, .slice none 0 0, .slice none 0 0])).below hb
   have HYA0 : Hid (IsPart wa ya p) := hra.is
   clear hb
   try go_simp
   refine hK.out _ _ (keepA (HP_w1.out.below hk0) (HV_w1.out.below hk0)) (fun hHeld => ?_)
   clear hK K
   try simp only [Act.put, List.setIfInBounds_toArray, List.set_cons_zero, List.set_cons_succ]
   refine wpAnyH_ready (rs := [3]) (by kernel_rfl) (by simp) ?_
   refine AllReadyH.cons (o := { dst := some 28, op := Op.call { callee := Callee.value (Operand.func 19), args := #[Operand.tmp 27], argTypes := #[50] }, type := 55, pos := _, after := _, guard := none }) rfl (fun K hK => ?_) AllReadyH.nil
   go_simp
   refine (toEvent_any e.t e.s e.q e.d e.k e.v e.g _).mono ?_
   rintro r wf ⟨rfl, hb⟩
   have hk1 : Below w1.heap.size w1 wf := (hk0).trans (hb.mono (hk0).size)
   have hz1 : Bk wf w1.heap.size 33 #[.int .i64 0, .slice none 0 0, .int .i64 0, .int .i64 0, .slice none 0 0, .slice none 0 0, .slice none 0 0] := (hz0).below hb
   have HYA1 : Hid (IsPart wf ya p) := HYA0.out.below hb
   clear hb
   try go_simp
   refine hK.out _ _ (keepA (HP_w1.out.below hk1) (HV_w1.out.below hk1)) (fun hHeld => ?_)
   clear hK K
   try simp only [Act.put, List.setIfInBounds_toArray, List.set_cons_zero, List.set_cons_succ]
   refine wpAnyH_ready (rs := [4]) (by kernel_rfl) (by simp) ?_
   refine AllReadyH.cons (o := { dst := some 29, op := Op.call { callee := Callee.value (Operand.func 24), args := #[Operand.tmp 26, Operand.tmp 28], argTypes := #[33, 55] }, type := 52, pos := _, after := _, guard := none }) rfl (fun K hK => ?_) AllReadyH.nil
   go_simp
   have hcW : w1.heap.size ≤ wf.heap.size := (hk1).size
   have hPW : w1.heap.size < wf.heap.size := (hz1).lt
   refine (HSP.out _ _ HYA1.out).mono ?_
   rintro r we ⟨ye, le, rfl, hb, hue⟩
   obtain ⟨fao, fbo, fco, fdo, feo, ffo, fgo, fho, gao, gbo, rfl, rfl⟩ := A2.form (c := 7) (n := L.length) hue
   have hk2 : Below w1.heap.size w1 we := (hk1).trans (hb.mono (hk1).size)
   have hz2 : Bk we w1.heap.size 33 #[.int .i64 0, .slice none 0 0, .int .i64 0, .int .i64 0, .slice none 0 0, .slice none 0 0, .slice none 0 0] := (hz1).below hb
   have HU := hidLawUnhearW hue
   clear hb
   try go_simp
   refine hK.out _ _ (keepA (HP_w1.out.below hk2) (HV_w1.out.below hk2)) (fun hHeld => ?_)
   clear hK K
   try simp only [Act.put, List.setIfInBounds_toArray, List.set_cons_zero, List.set_cons_succ]
   refine thLawUnhearW 5 { dst := some 24, op := Op.move (Operand.tmp 29), type := 52, pos := _, after := _, guard := none } (.tuple #[.agg #[.int .i64 A.n, .slice fao A.st.r.length fbo, .int .i64 A.st.q, .int .i64 A.st.d, .slice fco A.p.length fdo, .slice feo A.t.length ffo, .slice fgo A.a.length fho], .slice gao L.length gbo, .bool b]) ?_
   try simp only [Act.put, List.setIfInBounds_toArray, List.set_cons_zero, List.set_cons_succ]
   refine thLawUnhearW 6 { dst := some 30, op := Op.extract (Operand.tmp 24) 0, type := 33, pos := _, after := _, guard := none } (.agg #[.int .i64 A.n, .slice fao A.st.r.length fbo, .int .i64 A.st.q, .int .i64 A.st.d, .slice fco A.p.length fdo, .slice feo A.t.length ffo, .slice fgo A.a.length fho]) ?_
   try simp only [Act.put, List.setIfInBounds_toArray, List.set_cons_zero, List.set_cons_succ]
   refine thLawUnhearW 7 { dst := some 31, op := Op.extract (Operand.tmp 24) 1, type := 31, pos := _, after := _, guard := none } (.slice gao L.length gbo) ?_
   try simp only [Act.put, List.setIfInBounds_toArray, List.set_cons_zero, List.set_cons_succ]
   refine thLawUnhearW 8 { dst := some 32, op := Op.extract (Operand.tmp 24) 2, type := 4, pos := _, after := _, guard := none } (.bool b) ?_
   try simp only [Act.put, List.setIfInBounds_toArray, List.set_cons_zero, List.set_cons_succ]
   have zc0 := hz2.cell (i := 0) rfl
   have zc1 := hz2.cell (i := 1) rfl
   have zc2 := hz2.cell (i := 2) rfl
   have zc3 := hz2.cell (i := 3) rfl
   have zc4 := hz2.cell (i := 4) rfl
   have zc5 := hz2.cell (i := 5) rfl
   have zc6 := hz2.cell (i := 6) rfl
   have zf := hz2.free
   have hPlo : w1.heap.size ≤ w1.heap.size := ((Below.refl w1.heap.size w1)).size
   have hpt := put7s_turns we (w1.heap.size) (.int .i64 A.n) (.slice fao A.st.r.length fbo) (.int .i64 A.st.q) (.int .i64 A.st.d) (.slice fco A.p.length fdo) (.slice feo A.t.length ffo) (.slice fgo A.a.length fho)
   have T3 : Below w1.heap.size w1 (put7s we (w1.heap.size) (.int .i64 A.n) (.slice fao A.st.r.length fbo) (.int .i64 A.st.q) (.int .i64 A.st.d) (.slice fco A.p.length fdo) (.slice feo A.t.length ffo) (.slice fgo A.a.length fho)) := hk2.trans (hpt.to_below (fun k e => by rw [show k = w1.heap.size from e]; exact hPlo) hk2.size)
   refine wpAnyH_ready (rs := [10]) (by kernel_rfl) (by simp) ?_
   refine AllReadyH.cons (o := { dst := none, op := Op.store 33 (Operand.tmp 6) (Operand.tmp 30), type := 0, pos := _, after := _, guard := none }) rfl (fun K hK => ?_) AllReadyH.nil
   go_simp
   refine hK.out _ _ (keepA (HP_w1.out.below T3) (HV_w1.out.below T3)) (fun hHeld => ?_)
   clear hK K
   try simp only [Act.put, List.setIfInBounds_toArray, List.set_cons_zero, List.set_cons_succ]
   refine thLawUnhearW 11 { dst := some 7, op := Op.assign (Operand.tmp 31), type := 31, pos := _, after := _, guard := none } (.slice gao L.length gbo) ?_
   try simp only [Act.put, List.setIfInBounds_toArray, List.set_cons_zero, List.set_cons_succ]
   refine thLawUnhearW 12 { dst := some 8, op := Op.assign (Operand.tmp 32), type := 4, pos := _, after := _, guard := none } (.bool b) ?_
   try simp only [Act.put, List.setIfInBounds_toArray, List.set_cons_zero, List.set_cons_succ]
   refine wpAnyH_done (by kernel_rfl) ?_ _
   go_wp2
   go_meet
   case rel =>
    exact ⟨_, fao, fbo, fco, fdo, feo, ffo, fgo, fho, gao, gbo, rfl, rfl, rfl, T3, ⟨hPlo, (hz2.put7s (.int .i64 A.n) (.slice fao A.st.r.length fbo) (.int .i64 A.st.q) (.int .i64 A.st.d) (.slice fco A.p.length fdo) (.slice feo A.t.length ffo) (.slice fgo A.a.length fho)).lt⟩, hz2.put7s (.int .i64 A.n) (.slice fao A.st.r.length fbo) (.int .i64 A.st.q) (.int .i64 A.st.d) (.slice fco A.p.length fdo) (.slice feo A.t.length ffo) (.slice fgo A.a.length fho), (HU.out.turns hpt (fun k e1 e2 => by have e3 : k = w1.heap.size := e2; omega)).mono (fun k e => ⟨⟨by omega, Nat.lt_of_lt_of_le e.2 hpt.size⟩, by omega⟩)⟩
 case rest =>
  rename World => w2
  obtain ⟨PPo, fao, fbo, fco, fdo, feo, ffo, fgo, fho, gao, gbo, rfl, rfl, rfl, hb, ⟨hPlo, hPho⟩, hBk, hAn⟩ := hcut
  have z_w2 : w1.heap.size ≤ w2.heap.size := hb.size
  have HB_w2 := hidLawUnhearW (HB_w1.out.trans (hb.mono HB_w1.out.size))
  have HP_w2 := hidLawUnhearW (HP_w1.out.below hb)
  have HV_w2 := hidLawUnhearW (HV_w1.out.below hb)
  clear HB_w1 HP_w1 HV_w1
  have HSb_w2 := hidLawUnhearW hBk
  have HS_w2 := hidLawUnhearW hAn
  clear hb hBk hAn
  clear HSP
  have p0 := HP_w2.out.cell (i := 0) rfl
  have p1 := HP_w2.out.cell (i := 1) rfl
  have p2 := HP_w2.out.cell (i := 2) rfl
  have p3 := HP_w2.out.cell (i := 3) rfl
  have p4 := HP_w2.out.cell (i := 4) rfl
  have p5 := HP_w2.out.cell (i := 5) rfl
  have p6 := HP_w2.out.cell (i := 6) rfl
  go_wp2_with fail
  clear p0 p1 p2 p3 p4 p5 p6
  refine (toPart_any _ p _ HSM.out (HX.out.below HB_w2.out)).mono ?_
  rintro r w3 ⟨y1, rfl, hb, hr⟩
  have z_w3 : w2.heap.size ≤ w3.heap.size := hb.size
  have HB_w3 := hidLawUnhearW (HB_w2.out.trans (hb.mono HB_w2.out.size))
  have HP_w3 := hidLawUnhearW (HP_w2.out.below hb)
  have HV_w3 := hidLawUnhearW (HV_w2.out.below hb)
  have HSb_w3 := hidLawUnhearW (HSb_w2.out.below hb)
  have HS_w3 := hidLawUnhearW (HS_w2.out.below hb)
  clear HB_w2 HP_w2 HV_w2 HSb_w2 HS_w2
  have HR_w3 := hidLawUnhearW hr
  clear hb hr
  obtain ⟨a1, c1, a4, c4, a5, c5, a6, c6, rfl⟩ := HR_w3.out.form
  obtain ⟨Vw3, hVw3⟩ : ∃ V, w3.alloc (.cells #[.int .i64 p.n, .slice a1 p.st.r.length c1, .int .i64 p.st.q, .int .i64 p.st.d, .slice a4 p.p.length c4, .slice a5 p.t.length c5, .slice a6 p.a.length c6] 33) = V := ⟨_, rfl⟩
  have BHX0 : Bk Vw3 w3.heap.size 33 #[.int .i64 p.n, .slice a1 p.st.r.length c1, .int .i64 p.st.q, .int .i64 p.st.d, .slice a4 p.p.length c4, .slice a5 p.t.length c5, .slice a6 p.a.length c6] := by rw [← hVw3]; exact Bk.new _ _ _
  have hb : Below w3.heap.size w3 Vw3 := by rw [← hVw3]; exact (Below.refl _ _).alloc (Nat.le_refl _) _
  have y_Vw3 : w3.heap.size < Vw3.heap.size := BHX0.lt
  have z_Vw3 : w3.heap.size ≤ Vw3.heap.size := hb.size
  have HB_Vw3 := hidLawUnhearW (HB_w3.out.trans (hb.mono HB_w3.out.size))
  have HP_Vw3 := hidLawUnhearW (HP_w3.out.below hb)
  have HV_Vw3 := hidLawUnhearW (HV_w3.out.below hb)
  have HSb_Vw3 := hidLawUnhearW (HSb_w3.out.below hb)
  have HS_Vw3 := hidLawUnhearW (HS_w3.out.below hb)
  have HR_Vw3 := hidLawUnhearW (HR_w3.out.below hb)
  clear HB_w3 HP_w3 HV_w3 HSb_w3 HS_w3 HR_w3
  clear hb
  have HX0_Vw3 := hidLawUnhearW BHX0
  clear BHX0
  have r0 := HX0_Vw3.out.cell (i := 0) rfl
  have r1 := HX0_Vw3.out.cell (i := 1) rfl
  have r2 := HX0_Vw3.out.cell (i := 2) rfl
  have r3 := HX0_Vw3.out.cell (i := 3) rfl
  have r4 := HX0_Vw3.out.cell (i := 4) rfl
  have r5 := HX0_Vw3.out.cell (i := 5) rfl
  have r6 := HX0_Vw3.out.cell (i := 6) rfl
  have v0 := HV_Vw3.out.cell (i := 0) rfl
  have v1 := HV_Vw3.out.cell (i := 1) rfl
  have v2 := HV_Vw3.out.cell (i := 2) rfl
  have v3 := HV_Vw3.out.cell (i := 3) rfl
  have v4 := HV_Vw3.out.cell (i := 4) rfl
  have v5 := HV_Vw3.out.cell (i := 5) rfl
  have v6 := HV_Vw3.out.cell (i := 6) rfl
  go_wp2_with fail
  clear hVw3
  clear r0 r1 r2 r3 r4 r5 r6
  clear v0 v1 v2 v3 v4 v5 v6
  go_cut [10, 11, 12] from 19 (fun s10 s11 s12 wc => ∃ PP fag fbg fcg fdg feg ffg fgg fhg gag gbg, s10 = .pointer (some ⟨PP, 0, none⟩) ∧ s11 = .slice gag L.length gbg ∧ s12 = .bool b ∧ Below Vw3.heap.size Vw3 wc ∧ (Vw3.heap.size ≤ PP ∧ PP < wc.heap.size) ∧ Bk wc PP 33 #[.int .i64 A.n, .slice fag A.st.r.length fbg, .int .i64 A.st.q, .int .i64 A.st.d, .slice fcg A.p.length fdg, .slice feg A.t.length ffg, .slice fgg A.a.length fhg] ∧ A2 (fun k => (Vw3.heap.size ≤ k ∧ k < wc.heap.size) ∧ k ≠ PP) wc (.agg #[.int .i64 A.n, .slice fag A.st.r.length fbg, .int .i64 A.st.q, .int .i64 A.st.d, .slice fcg A.p.length fdg, .slice feg A.t.length ffg, .slice fgg A.a.length fhg]) (.slice gag L.length gbg) A (evsD L))
  case first =>
   refine wp_region_held_drew (S := fun W => W.cell? ⟨w3.heap.size, 0, none⟩ = some (.int .i64 p.n) ∧ W.cell? ⟨w3.heap.size, 1, none⟩ = some (.slice a1 p.st.r.length c1) ∧ W.cell? ⟨w3.heap.size, 2, none⟩ = some (.int .i64 p.st.q) ∧ W.cell? ⟨w3.heap.size, 3, none⟩ = some (.int .i64 p.st.d) ∧ W.cell? ⟨w3.heap.size, 4, none⟩ = some (.slice a4 p.p.length c4) ∧ W.cell? ⟨w3.heap.size, 5, none⟩ = some (.slice a5 p.t.length c5) ∧ W.cell? ⟨w3.heap.size, 6, none⟩ = some (.slice a6 p.a.length c6) ∧ W.cell? ⟨w.heap.size + 1, 0, none⟩ = some (.int .i64 e.t) ∧ W.cell? ⟨w.heap.size + 1, 1, none⟩ = some (.int .i64 e.s) ∧ W.cell? ⟨w.heap.size + 1, 2, none⟩ = some (.int .i64 e.q) ∧ W.cell? ⟨w.heap.size + 1, 3, none⟩ = some (.int .i64 e.d) ∧ W.cell? ⟨w.heap.size + 1, 4, none⟩ = some (.int .i64 e.k) ∧ W.cell? ⟨w.heap.size + 1, 5, none⟩ = some (.int .i64 e.v) ∧ W.cell? ⟨w.heap.size + 1, 6, none⟩ = some (.int .i64 e.g)) (by kernel_rfl) (keepB (HX0_Vw3.out.below (Below.refl Vw3.heap.size Vw3).drew) (HV_Vw3.out.below (Below.refl Vw3.heap.size Vw3).drew)) (fun hHeld => ?_)
   refine thLawUnhearW 0 { dst := some 36, op := Op.load 33 (Operand.tmp 9), type := 33, pos := _, after := _, guard := none } (.agg #[.int .i64 p.n, .slice a1 p.st.r.length c1, .int .i64 p.st.q, .int .i64 p.st.d, .slice a4 p.p.length c4, .slice a5 p.t.length c5, .slice a6 p.a.length c6]) ?_
   try simp only [Act.put, List.setIfInBounds_toArray, List.set_cons_zero, List.set_cons_succ]
   refine thLawUnhearW 1 { dst := some 37, op := Op.load 50 (Operand.tmp 3), type := 50, pos := _, after := _, guard := none } (.agg #[.int .i64 e.t, .int .i64 e.s, .int .i64 e.q, .int .i64 e.d, .int .i64 e.k, .int .i64 e.v, .int .i64 e.g]) ?_
   try simp only [Act.put, List.setIfInBounds_toArray, List.set_cons_zero, List.set_cons_succ]
   refine wpAnyH_ready (rs := [2, 8]) (by kernel_rfl) (by simp) ?_
   refine AllReadyH.cons (o := { dst := some 38, op := Op.call { callee := Callee.value (Operand.func 19), args := #[Operand.tmp 37], argTypes := #[50] }, type := 55, pos := _, after := _, guard := none }) rfl (fun K hK => ?_) (AllReadyH.cons (o := { dst := some 10, op := Op.alloc 33, type := 0, pos := _, after := _, guard := none }) rfl (fun K hK => ?_) AllReadyH.nil)
   ·go_simp
    refine (toEvent_any e.t e.s e.q e.d e.k e.v e.g _).mono ?_
    rintro r wf ⟨rfl, hb⟩
    have hk0 : Below Vw3.heap.size Vw3 wf := ((Below.refl Vw3.heap.size Vw3).drew).trans (hb.mono ((Below.refl Vw3.heap.size Vw3).drew).size)
    clear hb
    try go_simp
    refine hK.out _ _ (keepB (HX0_Vw3.out.below hk0) (HV_Vw3.out.below hk0)) (fun hHeld => ?_)
    clear hK K
    try simp only [Act.put, List.setIfInBounds_toArray, List.set_cons_zero, List.set_cons_succ]
    refine wpAnyH_ready (rs := [3, 8]) (by kernel_rfl) (by simp) ?_
    refine AllReadyH.cons (o := { dst := some 39, op := Op.call { callee := Callee.value (Operand.func 25), args := #[Operand.tmp 36, Operand.tmp 38], argTypes := #[33, 55] }, type := 52, pos := _, after := _, guard := none }) rfl (fun K hK => ?_) (AllReadyH.cons (o := { dst := some 10, op := Op.alloc 33, type := 0, pos := _, after := _, guard := none }) rfl (fun K hK => ?_) AllReadyH.nil)
    ·go_simp
     have hcW : Vw3.heap.size ≤ wf.heap.size := (hk0).size
     refine (HIM.out _ _ (HR_Vw3.out.is.below hk0)).mono ?_
     rintro r we ⟨ye, le, rfl, hb, hue⟩
     obtain ⟨fag, fbg, fcg, fdg, feg, ffg, fgg, fhg, gag, gbg, rfl, rfl⟩ := A2.form (c := 7) (n := L.length) hue
     have hk1 : Below Vw3.heap.size Vw3 we := (hk0).trans (hb.mono (hk0).size)
     have HU := hidLawUnhearW hue
     clear hb
     try go_simp
     refine hK.out _ _ (keepB (HX0_Vw3.out.below hk1) (HV_Vw3.out.below hk1)) (fun hHeld => ?_)
     clear hK K
     try simp only [Act.put, List.setIfInBounds_toArray, List.set_cons_zero, List.set_cons_succ]
     refine thLawUnhearW 4 { dst := some 35, op := Op.move (Operand.tmp 39), type := 52, pos := _, after := _, guard := none } (.tuple #[.agg #[.int .i64 A.n, .slice fag A.st.r.length fbg, .int .i64 A.st.q, .int .i64 A.st.d, .slice fcg A.p.length fdg, .slice feg A.t.length ffg, .slice fgg A.a.length fhg], .slice gag L.length gbg, .bool b]) ?_
     try simp only [Act.put, List.setIfInBounds_toArray, List.set_cons_zero, List.set_cons_succ]
     refine thLawUnhearW 5 { dst := some 40, op := Op.extract (Operand.tmp 35) 0, type := 33, pos := _, after := _, guard := none } (.agg #[.int .i64 A.n, .slice fag A.st.r.length fbg, .int .i64 A.st.q, .int .i64 A.st.d, .slice fcg A.p.length fdg, .slice feg A.t.length ffg, .slice fgg A.a.length fhg]) ?_
     try simp only [Act.put, List.setIfInBounds_toArray, List.set_cons_zero, List.set_cons_succ]
     refine thLawUnhearW 6 { dst := some 41, op := Op.extract (Operand.tmp 35) 1, type := 31, pos := _, after := _, guard := none } (.slice gag L.length gbg) ?_
     try simp only [Act.put, List.setIfInBounds_toArray, List.set_cons_zero, List.set_cons_succ]
     refine thLawUnhearW 7 { dst := some 42, op := Op.extract (Operand.tmp 35) 2, type := 4, pos := _, after := _, guard := none } (.bool b) ?_
     try simp only [Act.put, List.setIfInBounds_toArray, List.set_cons_zero, List.set_cons_succ]
     refine wpAnyH_ready (rs := [8]) (by kernel_rfl) (by simp) ?_
     refine AllReadyH.cons (o := { dst := some 10, op := Op.alloc 33, type := 0, pos := _, after := _, guard := none }) rfl (fun K hK => ?_) AllReadyH.nil
     go_simp
     refine hK.out _ _ (keepB (HX0_Vw3.out.below ((hk1).alloc (hk1).size (.cells #[.int .i64 0, .slice none 0 0, .int .i64 0, .int .i64 0, .slice none 0 0, .slice none 0 0, .slice none 0 0] 33))) (HV_Vw3.out.below ((hk1).alloc (hk1).size (.cells #[.int .i64 0, .slice none 0 0, .int .i64 0, .int .i64 0, .slice none 0 0, .slice none 0 0, .slice none 0 0] 33)))) (fun hHeld => ?_)
     clear hK K
     try simp only [Act.put, List.setIfInBounds_toArray, List.set_cons_zero, List.set_cons_succ]
     refine wpAnyH_ready (rs := [9]) (by kernel_rfl) (by simp) ?_
     refine AllReadyH.cons (o := { dst := none, op := Op.store 33 (Operand.tmp 10) (Operand.tmp 40), type := 0, pos := _, after := _, guard := none }) rfl (fun K hK => ?_) AllReadyH.nil
     go_simp
     refine hK.out _ _ (keepB (HX0_Vw3.out.below (hk1.alloc hk1.size (.cells #[.int .i64 A.n, .slice fag A.st.r.length fbg, .int .i64 A.st.q, .int .i64 A.st.d, .slice fcg A.p.length fdg, .slice feg A.t.length ffg, .slice fgg A.a.length fhg] 33))) (HV_Vw3.out.below (hk1.alloc hk1.size (.cells #[.int .i64 A.n, .slice fag A.st.r.length fbg, .int .i64 A.st.q, .int .i64 A.st.d, .slice fcg A.p.length fdg, .slice feg A.t.length ffg, .slice fgg A.a.length fhg] 33)))) (fun hHeld => ?_)
     clear hK K
     try simp only [Act.put, List.setIfInBounds_toArray, List.set_cons_zero, List.set_cons_succ]
     refine thLawUnhearW 10 { dst := some 11, op := Op.assign (Operand.tmp 41), type := 31, pos := _, after := _, guard := none } (.slice gag L.length gbg) ?_
     try simp only [Act.put, List.setIfInBounds_toArray, List.set_cons_zero, List.set_cons_succ]
     refine thLawUnhearW 11 { dst := some 12, op := Op.assign (Operand.tmp 42), type := 4, pos := _, after := _, guard := none } (.bool b) ?_
     try simp only [Act.put, List.setIfInBounds_toArray, List.set_cons_zero, List.set_cons_succ]
     refine wpAnyH_done (by kernel_rfl) ?_ _
     go_wp2
     go_meet
     case rel =>
      exact ⟨_, fag, fbg, fcg, fdg, feg, ffg, fgg, fhg, gag, gbg, rfl, rfl, rfl, (hk1.alloc hk1.size (.cells #[.int .i64 A.n, .slice fag A.st.r.length fbg, .int .i64 A.st.q, .int .i64 A.st.d, .slice fcg A.p.length fdg, .slice feg A.t.length ffg, .slice fgg A.a.length fhg] 33)), ⟨hk1.size, (Bk.new we 33 #[.int .i64 A.n, .slice fag A.st.r.length fbg, .int .i64 A.st.q, .int .i64 A.st.d, .slice fcg A.p.length fdg, .slice feg A.t.length ffg, .slice fgg A.a.length fhg]).lt⟩, Bk.new we 33 #[.int .i64 A.n, .slice fag A.st.r.length fbg, .int .i64 A.st.q, .int .i64 A.st.d, .slice fcg A.p.length fdg, .slice feg A.t.length ffg, .slice fgg A.a.length fhg], (HU.out.below ((Below.refl _ we).alloc (Nat.le_refl _) _)).mono (fun k e => ⟨⟨by omega, by simp; omega⟩, by omega⟩)⟩
    ·go_simp
     refine hK.out _ _ (keepB (HX0_Vw3.out.below ((hk0).alloc (hk0).size (.cells #[.int .i64 0, .slice none 0 0, .int .i64 0, .int .i64 0, .slice none 0 0, .slice none 0 0, .slice none 0 0] 33))) (HV_Vw3.out.below ((hk0).alloc (hk0).size (.cells #[.int .i64 0, .slice none 0 0, .int .i64 0, .int .i64 0, .slice none 0 0, .slice none 0 0, .slice none 0 0] 33)))) (fun hHeld => ?_)
     clear hK K
     try simp only [Act.put, List.setIfInBounds_toArray, List.set_cons_zero, List.set_cons_succ]
     refine wpAnyH_ready (rs := [3]) (by kernel_rfl) (by simp) ?_
     refine AllReadyH.cons (o := { dst := some 39, op := Op.call { callee := Callee.value (Operand.func 25), args := #[Operand.tmp 36, Operand.tmp 38], argTypes := #[33, 55] }, type := 52, pos := _, after := _, guard := none }) rfl (fun K hK => ?_) AllReadyH.nil
     go_simp
     have hcW : Vw3.heap.size ≤ (wf.alloc (.cells #[.int .i64 0, .slice none 0 0, .int .i64 0, .int .i64 0, .slice none 0 0, .slice none 0 0, .slice none 0 0] 33)).heap.size := (((hk0).alloc (hk0).size (.cells #[.int .i64 0, .slice none 0 0, .int .i64 0, .int .i64 0, .slice none 0 0, .slice none 0 0, .slice none 0 0] 33))).size
     have hPW : wf.heap.size < (wf.alloc (.cells #[.int .i64 0, .slice none 0 0, .int .i64 0, .int .i64 0, .slice none 0 0, .slice none 0 0, .slice none 0 0] 33)).heap.size := ((Bk.new wf 33 #[.int .i64 0, .slice none 0 0, .int .i64 0, .int .i64 0, .slice none 0 0, .slice none 0 0, .slice none 0 0] : Bk (wf.alloc (.cells #[.int .i64 0, .slice none 0 0, .int .i64 0, .int .i64 0, .slice none 0 0, .slice none 0 0, .slice none 0 0] 33)) wf.heap.size 33 #[.int .i64 0, .slice none 0 0, .int .i64 0, .int .i64 0, .slice none 0 0, .slice none 0 0, .slice none 0 0])).lt
     refine (HIM.out _ _ (HR_Vw3.out.is.below ((hk0).alloc (hk0).size (.cells #[.int .i64 0, .slice none 0 0, .int .i64 0, .int .i64 0, .slice none 0 0, .slice none 0 0, .slice none 0 0] 33)))).mono ?_
     rintro r we ⟨ye, le, rfl, hb, hue⟩
     obtain ⟨fag, fbg, fcg, fdg, feg, ffg, fgg, fhg, gag, gbg, rfl, rfl⟩ := A2.form (c := 7) (n := L.length) hue
     have hk1 : Below Vw3.heap.size Vw3 we := (((hk0).alloc (hk0).size (.cells #[.int .i64 0, .slice none 0 0, .int .i64 0, .int .i64 0, .slice none 0 0, .slice none 0 0, .slice none 0 0] 33))).trans (hb.mono (((hk0).alloc (hk0).size (.cells #[.int .i64 0, .slice none 0 0, .int .i64 0, .int .i64 0, .slice none 0 0, .slice none 0 0, .slice none 0 0] 33))).size)
     have hz1 : Bk we wf.heap.size 33 #[.int .i64 0, .slice none 0 0, .int .i64 0, .int .i64 0, .slice none 0 0, .slice none 0 0, .slice none 0 0] := ((Bk.new wf 33 #[.int .i64 0, .slice none 0 0, .int .i64 0, .int .i64 0, .slice none 0 0, .slice none 0 0, .slice none 0 0] : Bk (wf.alloc (.cells #[.int .i64 0, .slice none 0 0, .int .i64 0, .int .i64 0, .slice none 0 0, .slice none 0 0, .slice none 0 0] 33)) wf.heap.size 33 #[.int .i64 0, .slice none 0 0, .int .i64 0, .int .i64 0, .slice none 0 0, .slice none 0 0, .slice none 0 0])).below hb
     have HU := hidLawUnhearW hue
     clear hb
     try go_simp
     refine hK.out _ _ (keepB (HX0_Vw3.out.below hk1) (HV_Vw3.out.below hk1)) (fun hHeld => ?_)
     clear hK K
     try simp only [Act.put, List.setIfInBounds_toArray, List.set_cons_zero, List.set_cons_succ]
     refine thLawUnhearW 4 { dst := some 35, op := Op.move (Operand.tmp 39), type := 52, pos := _, after := _, guard := none } (.tuple #[.agg #[.int .i64 A.n, .slice fag A.st.r.length fbg, .int .i64 A.st.q, .int .i64 A.st.d, .slice fcg A.p.length fdg, .slice feg A.t.length ffg, .slice fgg A.a.length fhg], .slice gag L.length gbg, .bool b]) ?_
     try simp only [Act.put, List.setIfInBounds_toArray, List.set_cons_zero, List.set_cons_succ]
     refine thLawUnhearW 5 { dst := some 40, op := Op.extract (Operand.tmp 35) 0, type := 33, pos := _, after := _, guard := none } (.agg #[.int .i64 A.n, .slice fag A.st.r.length fbg, .int .i64 A.st.q, .int .i64 A.st.d, .slice fcg A.p.length fdg, .slice feg A.t.length ffg, .slice fgg A.a.length fhg]) ?_
     try simp only [Act.put, List.setIfInBounds_toArray, List.set_cons_zero, List.set_cons_succ]
     refine thLawUnhearW 6 { dst := some 41, op := Op.extract (Operand.tmp 35) 1, type := 31, pos := _, after := _, guard := none } (.slice gag L.length gbg) ?_
     try simp only [Act.put, List.setIfInBounds_toArray, List.set_cons_zero, List.set_cons_succ]
     refine thLawUnhearW 7 { dst := some 42, op := Op.extract (Operand.tmp 35) 2, type := 4, pos := _, after := _, guard := none } (.bool b) ?_
     try simp only [Act.put, List.setIfInBounds_toArray, List.set_cons_zero, List.set_cons_succ]
     have zc0 := hz1.cell (i := 0) rfl
     have zc1 := hz1.cell (i := 1) rfl
     have zc2 := hz1.cell (i := 2) rfl
     have zc3 := hz1.cell (i := 3) rfl
     have zc4 := hz1.cell (i := 4) rfl
     have zc5 := hz1.cell (i := 5) rfl
     have zc6 := hz1.cell (i := 6) rfl
     have zf := hz1.free
     have hPlo : Vw3.heap.size ≤ wf.heap.size := (hk0).size
     have hpt := put7s_turns we (wf.heap.size) (.int .i64 A.n) (.slice fag A.st.r.length fbg) (.int .i64 A.st.q) (.int .i64 A.st.d) (.slice fcg A.p.length fdg) (.slice feg A.t.length ffg) (.slice fgg A.a.length fhg)
     have T3 : Below Vw3.heap.size Vw3 (put7s we (wf.heap.size) (.int .i64 A.n) (.slice fag A.st.r.length fbg) (.int .i64 A.st.q) (.int .i64 A.st.d) (.slice fcg A.p.length fdg) (.slice feg A.t.length ffg) (.slice fgg A.a.length fhg)) := hk1.trans (hpt.to_below (fun k e => by rw [show k = wf.heap.size from e]; exact hPlo) hk1.size)
     refine wpAnyH_ready (rs := [9]) (by kernel_rfl) (by simp) ?_
     refine AllReadyH.cons (o := { dst := none, op := Op.store 33 (Operand.tmp 10) (Operand.tmp 40), type := 0, pos := _, after := _, guard := none }) rfl (fun K hK => ?_) AllReadyH.nil
     go_simp
     refine hK.out _ _ (keepB (HX0_Vw3.out.below T3) (HV_Vw3.out.below T3)) (fun hHeld => ?_)
     clear hK K
     try simp only [Act.put, List.setIfInBounds_toArray, List.set_cons_zero, List.set_cons_succ]
     refine thLawUnhearW 10 { dst := some 11, op := Op.assign (Operand.tmp 41), type := 31, pos := _, after := _, guard := none } (.slice gag L.length gbg) ?_
     try simp only [Act.put, List.setIfInBounds_toArray, List.set_cons_zero, List.set_cons_succ]
     refine thLawUnhearW 11 { dst := some 12, op := Op.assign (Operand.tmp 42), type := 4, pos := _, after := _, guard := none } (.bool b) ?_
     try simp only [Act.put, List.setIfInBounds_toArray, List.set_cons_zero, List.set_cons_succ]
     refine wpAnyH_done (by kernel_rfl) ?_ _
     go_wp2
     go_meet
     case rel =>
      exact ⟨_, fag, fbg, fcg, fdg, feg, ffg, fgg, fhg, gag, gbg, rfl, rfl, rfl, T3, ⟨hPlo, (hz1.put7s (.int .i64 A.n) (.slice fag A.st.r.length fbg) (.int .i64 A.st.q) (.int .i64 A.st.d) (.slice fcg A.p.length fdg) (.slice feg A.t.length ffg) (.slice fgg A.a.length fhg)).lt⟩, hz1.put7s (.int .i64 A.n) (.slice fag A.st.r.length fbg) (.int .i64 A.st.q) (.int .i64 A.st.d) (.slice fcg A.p.length fdg) (.slice feg A.t.length ffg) (.slice fgg A.a.length fhg), (HU.out.turns hpt (fun k e1 e2 => by have e3 : k = wf.heap.size := e2; omega)).mono (fun k e => ⟨⟨by omega, Nat.lt_of_lt_of_le e.2 hpt.size⟩, by omega⟩)⟩
   ·go_simp
    refine hK.out _ _ (keepB (HX0_Vw3.out.below (((Below.refl Vw3.heap.size Vw3).drew).alloc ((Below.refl Vw3.heap.size Vw3).drew).size (.cells #[.int .i64 0, .slice none 0 0, .int .i64 0, .int .i64 0, .slice none 0 0, .slice none 0 0, .slice none 0 0] 33))) (HV_Vw3.out.below (((Below.refl Vw3.heap.size Vw3).drew).alloc ((Below.refl Vw3.heap.size Vw3).drew).size (.cells #[.int .i64 0, .slice none 0 0, .int .i64 0, .int .i64 0, .slice none 0 0, .slice none 0 0, .slice none 0 0] 33)))) (fun hHeld => ?_)
    clear hK K
    try simp only [Act.put, List.setIfInBounds_toArray, List.set_cons_zero, List.set_cons_succ]
    refine wpAnyH_ready (rs := [2]) (by kernel_rfl) (by simp) ?_
    refine AllReadyH.cons (o := { dst := some 38, op := Op.call { callee := Callee.value (Operand.func 19), args := #[Operand.tmp 37], argTypes := #[50] }, type := 55, pos := _, after := _, guard := none }) rfl (fun K hK => ?_) AllReadyH.nil
    go_simp
    refine (toEvent_any e.t e.s e.q e.d e.k e.v e.g _).mono ?_
    rintro r wf ⟨rfl, hb⟩
    have hk0 : Below Vw3.heap.size Vw3 wf := ((((Below.refl Vw3.heap.size Vw3).drew).alloc ((Below.refl Vw3.heap.size Vw3).drew).size (.cells #[.int .i64 0, .slice none 0 0, .int .i64 0, .int .i64 0, .slice none 0 0, .slice none 0 0, .slice none 0 0] 33))).trans (hb.mono ((((Below.refl Vw3.heap.size Vw3).drew).alloc ((Below.refl Vw3.heap.size Vw3).drew).size (.cells #[.int .i64 0, .slice none 0 0, .int .i64 0, .int .i64 0, .slice none 0 0, .slice none 0 0, .slice none 0 0] 33))).size)
    have hz0 : Bk wf Vw3.heap.size 33 #[.int .i64 0, .slice none 0 0, .int .i64 0, .int .i64 0, .slice none 0 0, .slice none 0 0, .slice none 0 0] := ((Bk.new Vw3.drew 33 #[.int .i64 0, .slice none 0 0, .int .i64 0, .int .i64 0, .slice none 0 0, .slice none 0 0, .slice none 0 0] : Bk (Vw3.drew.alloc (.cells #[.int .i64 0, .slice none 0 0, .int .i64 0, .int .i64 0, .slice none 0 0, .slice none 0 0, .slice none 0 0] 33)) Vw3.heap.size 33 #[.int .i64 0, .slice none 0 0, .int .i64 0, .int .i64 0, .slice none 0 0, .slice none 0 0, .slice none 0 0])).below hb
    clear hb
    try go_simp
    refine hK.out _ _ (keepB (HX0_Vw3.out.below hk0) (HV_Vw3.out.below hk0)) (fun hHeld => ?_)
    clear hK K
    try simp only [Act.put, List.setIfInBounds_toArray, List.set_cons_zero, List.set_cons_succ]
    refine wpAnyH_ready (rs := [3]) (by kernel_rfl) (by simp) ?_
    refine AllReadyH.cons (o := { dst := some 39, op := Op.call { callee := Callee.value (Operand.func 25), args := #[Operand.tmp 36, Operand.tmp 38], argTypes := #[33, 55] }, type := 52, pos := _, after := _, guard := none }) rfl (fun K hK => ?_) AllReadyH.nil
    go_simp
    have hcW : Vw3.heap.size ≤ wf.heap.size := (hk0).size
    have hPW : Vw3.heap.size < wf.heap.size := (hz0).lt
    refine (HIM.out _ _ (HR_Vw3.out.is.below hk0)).mono ?_
    rintro r we ⟨ye, le, rfl, hb, hue⟩
    obtain ⟨fag, fbg, fcg, fdg, feg, ffg, fgg, fhg, gag, gbg, rfl, rfl⟩ := A2.form (c := 7) (n := L.length) hue
    have hk1 : Below Vw3.heap.size Vw3 we := (hk0).trans (hb.mono (hk0).size)
    have hz1 : Bk we Vw3.heap.size 33 #[.int .i64 0, .slice none 0 0, .int .i64 0, .int .i64 0, .slice none 0 0, .slice none 0 0, .slice none 0 0] := (hz0).below hb
    have HU := hidLawUnhearW hue
    clear hb
    try go_simp
    refine hK.out _ _ (keepB (HX0_Vw3.out.below hk1) (HV_Vw3.out.below hk1)) (fun hHeld => ?_)
    clear hK K
    try simp only [Act.put, List.setIfInBounds_toArray, List.set_cons_zero, List.set_cons_succ]
    refine thLawUnhearW 4 { dst := some 35, op := Op.move (Operand.tmp 39), type := 52, pos := _, after := _, guard := none } (.tuple #[.agg #[.int .i64 A.n, .slice fag A.st.r.length fbg, .int .i64 A.st.q, .int .i64 A.st.d, .slice fcg A.p.length fdg, .slice feg A.t.length ffg, .slice fgg A.a.length fhg], .slice gag L.length gbg, .bool b]) ?_
    try simp only [Act.put, List.setIfInBounds_toArray, List.set_cons_zero, List.set_cons_succ]
    refine thLawUnhearW 5 { dst := some 40, op := Op.extract (Operand.tmp 35) 0, type := 33, pos := _, after := _, guard := none } (.agg #[.int .i64 A.n, .slice fag A.st.r.length fbg, .int .i64 A.st.q, .int .i64 A.st.d, .slice fcg A.p.length fdg, .slice feg A.t.length ffg, .slice fgg A.a.length fhg]) ?_
    try simp only [Act.put, List.setIfInBounds_toArray, List.set_cons_zero, List.set_cons_succ]
    refine thLawUnhearW 6 { dst := some 41, op := Op.extract (Operand.tmp 35) 1, type := 31, pos := _, after := _, guard := none } (.slice gag L.length gbg) ?_
    try simp only [Act.put, List.setIfInBounds_toArray, List.set_cons_zero, List.set_cons_succ]
    refine thLawUnhearW 7 { dst := some 42, op := Op.extract (Operand.tmp 35) 2, type := 4, pos := _, after := _, guard := none } (.bool b) ?_
    try simp only [Act.put, List.setIfInBounds_toArray, List.set_cons_zero, List.set_cons_succ]
    have zc0 := hz1.cell (i := 0) rfl
    have zc1 := hz1.cell (i := 1) rfl
    have zc2 := hz1.cell (i := 2) rfl
    have zc3 := hz1.cell (i := 3) rfl
    have zc4 := hz1.cell (i := 4) rfl
    have zc5 := hz1.cell (i := 5) rfl
    have zc6 := hz1.cell (i := 6) rfl
    have zf := hz1.free
    have hPlo : Vw3.heap.size ≤ Vw3.heap.size := ((Below.refl Vw3.heap.size Vw3)).size
    have hpt := put7s_turns we (Vw3.heap.size) (.int .i64 A.n) (.slice fag A.st.r.length fbg) (.int .i64 A.st.q) (.int .i64 A.st.d) (.slice fcg A.p.length fdg) (.slice feg A.t.length ffg) (.slice fgg A.a.length fhg)
    have T3 : Below Vw3.heap.size Vw3 (put7s we (Vw3.heap.size) (.int .i64 A.n) (.slice fag A.st.r.length fbg) (.int .i64 A.st.q) (.int .i64 A.st.d) (.slice fcg A.p.length fdg) (.slice feg A.t.length ffg) (.slice fgg A.a.length fhg)) := hk1.trans (hpt.to_below (fun k e => by rw [show k = Vw3.heap.size from e]; exact hPlo) hk1.size)
    refine wpAnyH_ready (rs := [9]) (by kernel_rfl) (by simp) ?_
    refine AllReadyH.cons (o := { dst := none, op := Op.store 33 (Operand.tmp 10) (Operand.tmp 40), type := 0, pos := _, after := _, guard := none }) rfl (fun K hK => ?_) AllReadyH.nil
    go_simp
    refine hK.out _ _ (keepB (HX0_Vw3.out.below T3) (HV_Vw3.out.below T3)) (fun hHeld => ?_)
    clear hK K
    try simp only [Act.put, List.setIfInBounds_toArray, List.set_cons_zero, List.set_cons_succ]
    refine thLawUnhearW 10 { dst := some 11, op := Op.assign (Operand.tmp 41), type := 31, pos := _, after := _, guard := none } (.slice gag L.length gbg) ?_
    try simp only [Act.put, List.setIfInBounds_toArray, List.set_cons_zero, List.set_cons_succ]
    refine thLawUnhearW 11 { dst := some 12, op := Op.assign (Operand.tmp 42), type := 4, pos := _, after := _, guard := none } (.bool b) ?_
    try simp only [Act.put, List.setIfInBounds_toArray, List.set_cons_zero, List.set_cons_succ]
    refine wpAnyH_done (by kernel_rfl) ?_ _
    go_wp2
    go_meet
    case rel =>
     exact ⟨_, fag, fbg, fcg, fdg, feg, ffg, fgg, fhg, gag, gbg, rfl, rfl, rfl, T3, ⟨hPlo, (hz1.put7s (.int .i64 A.n) (.slice fag A.st.r.length fbg) (.int .i64 A.st.q) (.int .i64 A.st.d) (.slice fcg A.p.length fdg) (.slice feg A.t.length ffg) (.slice fgg A.a.length fhg)).lt⟩, hz1.put7s (.int .i64 A.n) (.slice fag A.st.r.length fbg) (.int .i64 A.st.q) (.int .i64 A.st.d) (.slice fcg A.p.length fdg) (.slice feg A.t.length ffg) (.slice fgg A.a.length fhg), (HU.out.turns hpt (fun k e1 e2 => by have e3 : k = Vw3.heap.size := e2; omega)).mono (fun k e => ⟨⟨by omega, Nat.lt_of_lt_of_le e.2 hpt.size⟩, by omega⟩)⟩
  case rest =>
   rename World => w4
   obtain ⟨PPg, fag, fbg, fcg, fdg, feg, ffg, fgg, fhg, gag, gbg, rfl, rfl, rfl, hb, ⟨hPlg, hPhg⟩, hBk, hAn⟩ := hcut
   have z_w4 : Vw3.heap.size ≤ w4.heap.size := hb.size
   have HB_w4 := hidLawUnhearW (HB_Vw3.out.trans (hb.mono HB_Vw3.out.size))
   have HP_w4 := hidLawUnhearW (HP_Vw3.out.below hb)
   have HV_w4 := hidLawUnhearW (HV_Vw3.out.below hb)
   have HSb_w4 := hidLawUnhearW (HSb_Vw3.out.below hb)
   have HS_w4 := hidLawUnhearW (HS_Vw3.out.below hb)
   have HR_w4 := hidLawUnhearW (HR_Vw3.out.below hb)
   have HX0_w4 := hidLawUnhearW (HX0_Vw3.out.below hb)
   clear HB_Vw3 HP_Vw3 HV_Vw3 HSb_Vw3 HS_Vw3 HR_Vw3 HX0_Vw3
   have HGb_w4 := hidLawUnhearW hBk
   have HG_w4 := hidLawUnhearW hAn
   clear hb hBk hAn
   have g0 := HGb_w4.out.cell (i := 0) rfl
   have g1 := HGb_w4.out.cell (i := 1) rfl
   have g2 := HGb_w4.out.cell (i := 2) rfl
   have g3 := HGb_w4.out.cell (i := 3) rfl
   have g4 := HGb_w4.out.cell (i := 4) rfl
   have g5 := HGb_w4.out.cell (i := 5) rfl
   have g6 := HGb_w4.out.cell (i := 6) rfl
   have t0 := HSb_w4.out.cell (i := 0) rfl
   have t1 := HSb_w4.out.cell (i := 1) rfl
   have t2 := HSb_w4.out.cell (i := 2) rfl
   have t3 := HSb_w4.out.cell (i := 3) rfl
   have t4 := HSb_w4.out.cell (i := 4) rfl
   have t5 := HSb_w4.out.cell (i := 5) rfl
   have t6 := HSb_w4.out.cell (i := 6) rfl
   go_wp2_with fail
   clear g0 g1 g2 g3 g4 g5 g6
   clear t0 t1 t2 t3 t4 t5 t6
   refine (eqPart_same _ _ A _ HA.out HG_w4.out.part HS_w4.out.part).mono ?_
   rintro r w5 ⟨rfl, hb⟩
   have z_w5 : w4.heap.size ≤ w5.heap.size := hb.size
   have HB_w5 := hidLawUnhearW (HB_w4.out.trans (hb.mono HB_w4.out.size))
   have HP_w5 := hidLawUnhearW (HP_w4.out.below hb)
   have HV_w5 := hidLawUnhearW (HV_w4.out.below hb)
   have HSb_w5 := hidLawUnhearW (HSb_w4.out.below hb)
   have HS_w5 := hidLawUnhearW (HS_w4.out.below hb)
   have HR_w5 := hidLawUnhearW (HR_w4.out.below hb)
   have HX0_w5 := hidLawUnhearW (HX0_w4.out.below hb)
   have HGb_w5 := hidLawUnhearW (HGb_w4.out.below hb)
   have HG_w5 := hidLawUnhearW (HG_w4.out.below hb)
   clear HB_w4 HP_w4 HV_w4 HSb_w4 HS_w4 HR_w4 HX0_w4 HGb_w4 HG_w4
   clear hb
   go_wp2_with fail
   refine (eq_evs _ _ L _ (by have := HL.out; rw [evs_wt] at this; exact this) HG_w5.out.list HS_w5.out.list).mono ?_
   rintro r w6 ⟨rfl, hb⟩
   have z_w6 : w5.heap.size ≤ w6.heap.size := hb.size
   have HB_w6 := hidLawUnhearW (HB_w5.out.trans (hb.mono HB_w5.out.size))
   have HP_w6 := hidLawUnhearW (HP_w5.out.below hb)
   have HV_w6 := hidLawUnhearW (HV_w5.out.below hb)
   have HSb_w6 := hidLawUnhearW (HSb_w5.out.below hb)
   have HS_w6 := hidLawUnhearW (HS_w5.out.below hb)
   have HR_w6 := hidLawUnhearW (HR_w5.out.below hb)
   have HX0_w6 := hidLawUnhearW (HX0_w5.out.below hb)
   have HGb_w6 := hidLawUnhearW (HGb_w5.out.below hb)
   have HG_w6 := hidLawUnhearW (HG_w5.out.below hb)
   clear HB_w5 HP_w5 HV_w5 HSb_w5 HS_w5 HR_w5 HX0_w5 HGb_w5 HG_w5
   clear hb
   have r0 := HX0_w6.out.cell (i := 0) rfl
   have r1 := HX0_w6.out.cell (i := 1) rfl
   have r2 := HX0_w6.out.cell (i := 2) rfl
   have r3 := HX0_w6.out.cell (i := 3) rfl
   have r4 := HX0_w6.out.cell (i := 4) rfl
   have r5 := HX0_w6.out.cell (i := 5) rfl
   have r6 := HX0_w6.out.cell (i := 6) rfl
   have p0 := HP_w6.out.cell (i := 0) rfl
   have p1 := HP_w6.out.cell (i := 1) rfl
   have p2 := HP_w6.out.cell (i := 2) rfl
   have p3 := HP_w6.out.cell (i := 3) rfl
   have p4 := HP_w6.out.cell (i := 4) rfl
   have p5 := HP_w6.out.cell (i := 5) rfl
   have p6 := HP_w6.out.cell (i := 6) rfl
   go_wp2_with fail
   go_region_held3 (fun W => W.cell? ⟨w3.heap.size, 0, none⟩ = some (.int .i64 p.n) ∧ W.cell? ⟨w3.heap.size, 1, none⟩ = some (.slice a1 p.st.r.length c1) ∧ W.cell? ⟨w3.heap.size, 2, none⟩ = some (.int .i64 p.st.q) ∧ W.cell? ⟨w3.heap.size, 3, none⟩ = some (.int .i64 p.st.d) ∧ W.cell? ⟨w3.heap.size, 4, none⟩ = some (.slice a4 p.p.length c4) ∧ W.cell? ⟨w3.heap.size, 5, none⟩ = some (.slice a5 p.t.length c5) ∧ W.cell? ⟨w3.heap.size, 6, none⟩ = some (.slice a6 p.a.length c6) ∧ W.cell? ⟨w.heap.size, 0, none⟩ = some (.int .i64 p.n) ∧ W.cell? ⟨w.heap.size, 1, none⟩ = some v1 ∧ W.cell? ⟨w.heap.size, 2, none⟩ = some (.int .i64 p.st.q) ∧ W.cell? ⟨w.heap.size, 3, none⟩ = some (.int .i64 p.st.d) ∧ W.cell? ⟨w.heap.size, 4, none⟩ = some v4 ∧ W.cell? ⟨w.heap.size, 5, none⟩ = some v5 ∧ W.cell? ⟨w.heap.size, 6, none⟩ = some v6) ((repeat' apply And.intro) <;> first | (go_keep; done) | (rw [hcA _ _ (by first | omega | (simp; omega))]; simp [*]; done))
    (first | (go_at_call 18; refine (toPart_any _ p _ HSM.out (HX.out.below HB_w6.out.drew)).mono ?_; rintro r w7 ⟨yx, rfl, hbw7, hr2⟩; obtain ⟨hcA, hfA⟩ := bcell hbw7; have hzw7 : w6.heap.size ≤ w7.heap.size := hbw7.size) | (go_at_call 11; refine (eqPart_same _ _ p _ HSM.out (HR_w6.out.below ((Below.refl _ w6).drew.trans hbw7)).is hr2.is).mono ?_; rintro r w8 ⟨rfl, hbw8⟩; obtain ⟨hcA, hfA⟩ := bcell hbw8; have hzw8 : w7.heap.size ≤ w8.heap.size := hbw8.size))
   clear hcA hfA
   have hbc : Below w6.heap.size w6 w8 := ((Below.refl w6.heap.size w6).drew.trans (hbw7.mono (Nat.le_refl _))).trans (hbw8.mono (by omega))
   clear r0 r1 r2 r3 r4 r5 r6
   clear p0 p1 p2 p3 p4 p5 p6
   have z_w8 : w6.heap.size ≤ w8.heap.size := hbc.size
   have HB_w8 := hidLawUnhearW (HB_w6.out.trans (hbc.mono HB_w6.out.size))
   have HP_w8 := hidLawUnhearW (HP_w6.out.below hbc)
   have HV_w8 := hidLawUnhearW (HV_w6.out.below hbc)
   have HSb_w8 := hidLawUnhearW (HSb_w6.out.below hbc)
   have HS_w8 := hidLawUnhearW (HS_w6.out.below hbc)
   have HR_w8 := hidLawUnhearW (HR_w6.out.below hbc)
   have HX0_w8 := hidLawUnhearW (HX0_w6.out.below hbc)
   have HGb_w8 := hidLawUnhearW (HGb_w6.out.below hbc)
   have HG_w8 := hidLawUnhearW (HG_w6.out.below hbc)
   clear HB_w6 HP_w6 HV_w6 HSb_w6 HS_w6 HR_w6 HX0_w6 HGb_w6 HG_w6
   clear hbc hr2 hbw7 hzw7 hbw8 hzw8
   have r0 := HX0_w8.out.cell (i := 0) rfl
   have r1 := HX0_w8.out.cell (i := 1) rfl
   have r2 := HX0_w8.out.cell (i := 2) rfl
   have r3 := HX0_w8.out.cell (i := 3) rfl
   have r4 := HX0_w8.out.cell (i := 4) rfl
   have r5 := HX0_w8.out.cell (i := 5) rfl
   have r6 := HX0_w8.out.cell (i := 6) rfl
   go_wp2_with fail
   clear r0 r1 r2 r3 r4 r5 r6
   have hcp := Pa.cntA_le p
   have hsm := HSM.out
   refine (markPart_any 1 (by omega) (by omega) (by omega) HR_w8.out).mono ?_
   rintro r w9 ⟨rfl, _, ht⟩
   have z_w9 : w8.heap.size ≤ w9.heap.size := ht.size
   have HB_w9 := hidLawUnhearW (HB_w8.out.trans (ht.to_below (fun k e => by omega) (by omega)))
   have HP_w9 := hidLawUnhearW (HP_w8.out.turns ht (fun e => by omega))
   have HV_w9 := hidLawUnhearW (HV_w8.out.turns ht (fun e => by omega))
   have HSb_w9 := hidLawUnhearW (HSb_w8.out.turns ht (fun e => by omega))
   have HS_w9 := hidLawUnhearW (HS_w8.out.turns ht (fun k e => by omega))
   have HGb_w9 := hidLawUnhearW (HGb_w8.out.turns ht (fun e => by omega))
   have HG_w9 := hidLawUnhearW (HG_w8.out.turns ht (fun k e => by omega))
   clear HB_w8 HP_w8 HV_w8 HSb_w8 HS_w8 HR_w8 HX0_w8 HGb_w8 HG_w8
   clear ht hcp hsm
   have hkn : ¬ (1 + (p.cntA : Int) < 0) := by omega
   have g0 := HGb_w9.out.cell (i := 0) rfl
   have g1 := HGb_w9.out.cell (i := 1) rfl
   have g2 := HGb_w9.out.cell (i := 2) rfl
   have g3 := HGb_w9.out.cell (i := 3) rfl
   have g4 := HGb_w9.out.cell (i := 4) rfl
   have g5 := HGb_w9.out.cell (i := 5) rfl
   have g6 := HGb_w9.out.cell (i := 6) rfl
   have t0 := HSb_w9.out.cell (i := 0) rfl
   have t1 := HSb_w9.out.cell (i := 1) rfl
   have t2 := HSb_w9.out.cell (i := 2) rfl
   have t3 := HSb_w9.out.cell (i := 3) rfl
   have t4 := HSb_w9.out.cell (i := 4) rfl
   have t5 := HSb_w9.out.cell (i := 5) rfl
   have t6 := HSb_w9.out.cell (i := 6) rfl
   go_wp2_with fail
   clear g0 g1 g2 g3 g4 g5 g6
   clear t0 t1 t2 t3 t4 t5 t6
   refine (eqPart_same _ _ A _ HA.out HG_w9.out.part HS_w9.out.part).mono ?_
   rintro r w10 ⟨rfl, hb⟩
   have z_w10 : w9.heap.size ≤ w10.heap.size := hb.size
   have HB_w10 := hidLawUnhearW (HB_w9.out.trans (hb.mono HB_w9.out.size))
   have HP_w10 := hidLawUnhearW (HP_w9.out.below hb)
   have HV_w10 := hidLawUnhearW (HV_w9.out.below hb)
   have HSb_w10 := hidLawUnhearW (HSb_w9.out.below hb)
   have HS_w10 := hidLawUnhearW (HS_w9.out.below hb)
   have HGb_w10 := hidLawUnhearW (HGb_w9.out.below hb)
   have HG_w10 := hidLawUnhearW (HG_w9.out.below hb)
   clear HB_w9 HP_w9 HV_w9 HSb_w9 HS_w9 HGb_w9 HG_w9
   clear hb
   go_wp2_with fail
   refine (eq_evs _ _ L _ (by have := HL.out; rw [evs_wt] at this; exact this) HG_w10.out.list HS_w10.out.list).mono ?_
   rintro r w11 ⟨rfl, hb⟩
   have z_w11 : w10.heap.size ≤ w11.heap.size := hb.size
   have HB_w11 := hidLawUnhearW (HB_w10.out.trans (hb.mono HB_w10.out.size))
   have HP_w11 := hidLawUnhearW (HP_w10.out.below hb)
   have HV_w11 := hidLawUnhearW (HV_w10.out.below hb)
   have HSb_w11 := hidLawUnhearW (HSb_w10.out.below hb)
   have HS_w11 := hidLawUnhearW (HS_w10.out.below hb)
   have HGb_w11 := hidLawUnhearW (HGb_w10.out.below hb)
   have HG_w11 := hidLawUnhearW (HG_w10.out.below hb)
   clear HB_w10 HP_w10 HV_w10 HSb_w10 HS_w10 HGb_w10 HG_w10
   clear hb
   have hq1 : ¬ (1 + (A.cntA : Int) < 0) := by omega
   have hq2 : ¬ (1 + (A.cntA : Int) + ((evsD L).cnt : Int) < 0) := by omega
   have hA9 : A.wt ≤ 1048577 := by have := HA.out; omega
   have hL9 : L.length ≤ 1048577 := by have := HL.out; rw [evs_wt] at this; omega
   have g0 := HGb_w11.out.cell (i := 0) rfl
   have g1 := HGb_w11.out.cell (i := 1) rfl
   have g2 := HGb_w11.out.cell (i := 2) rfl
   have g3 := HGb_w11.out.cell (i := 3) rfl
   have g4 := HGb_w11.out.cell (i := 4) rfl
   have g5 := HGb_w11.out.cell (i := 5) rfl
   have g6 := HGb_w11.out.cell (i := 6) rfl
   go_wp2_with fail
   clear g0 g1 g2 g3 g4 g5 g6
   refine (A2.mark1 hA9 HG_w11.out).mono ?_
   rintro r w12 ⟨rfl, hh, ht⟩
   have z_w12 : w11.heap.size ≤ w12.heap.size := ht.size
   have HB_w12 := hidLawUnhearW (HB_w11.out.trans (ht.to_below (fun k e => by omega) (by omega)))
   have HP_w12 := hidLawUnhearW (HP_w11.out.turns ht (fun e => by omega))
   have HV_w12 := hidLawUnhearW (HV_w11.out.turns ht (fun e => by omega))
   have HSb_w12 := hidLawUnhearW (HSb_w11.out.turns ht (fun e => by omega))
   have HS_w12 := hidLawUnhearW (HS_w11.out.turns ht (fun k e => by omega))
   have HGb_w12 := hidLawUnhearW (HGb_w11.out.turns ht (fun e => by omega))
   clear HB_w11 HP_w11 HV_w11 HSb_w11 HS_w11 HGb_w11 HG_w11
   have HH_w12 := hidLawUnhearW hh
   clear hh ht
   go_wp2_with fail
   refine (H1.mark2e hA9 hL9 HH_w12.out).mono ?_
   rintro r w13 ⟨rfl, hh, ht⟩
   have z_w13 : w12.heap.size ≤ w13.heap.size := ht.size
   have HB_w13 := hidLawUnhearW (HB_w12.out.trans (ht.to_below (fun k e => by omega) (by omega)))
   have HP_w13 := hidLawUnhearW (HP_w12.out.turns ht (fun e => by omega))
   have HV_w13 := hidLawUnhearW (HV_w12.out.turns ht (fun e => by omega))
   have HSb_w13 := hidLawUnhearW (HSb_w12.out.turns ht (fun e => by omega))
   have HS_w13 := hidLawUnhearW (HS_w12.out.turns ht (fun k e => by omega))
   have HGb_w13 := hidLawUnhearW (HGb_w12.out.turns ht (fun e => by omega))
   clear HB_w12 HP_w12 HV_w12 HSb_w12 HS_w12 HGb_w12 HH_w12
   have HJ_w13 := hidLawUnhearW hh
   clear hh ht
   have g0 := HGb_w13.out.cell (i := 0) rfl
   have g1 := HGb_w13.out.cell (i := 1) rfl
   have g2 := HGb_w13.out.cell (i := 2) rfl
   have g3 := HGb_w13.out.cell (i := 3) rfl
   have g4 := HGb_w13.out.cell (i := 4) rfl
   have g5 := HGb_w13.out.cell (i := 5) rfl
   have g6 := HGb_w13.out.cell (i := 6) rfl
   go_wp2_with fail
   clear g0 g1 g2 g3 g4 g5 g6
   refine (H2.held1 hA9 HJ_w13.out).mono ?_
   rintro r w14 ⟨rfl, hb⟩
   have z_w14 : w13.heap.size ≤ w14.heap.size := hb.size
   have HB_w14 := hidLawUnhearW (HB_w13.out.trans (hb.mono HB_w13.out.size))
   have HP_w14 := hidLawUnhearW (HP_w13.out.below hb)
   have HV_w14 := hidLawUnhearW (HV_w13.out.below hb)
   have HSb_w14 := hidLawUnhearW (HSb_w13.out.below hb)
   have HS_w14 := hidLawUnhearW (HS_w13.out.below hb)
   have HGb_w14 := hidLawUnhearW (HGb_w13.out.below hb)
   have HJ_w14 := hidLawUnhearW (HJ_w13.out.below hb)
   clear HB_w13 HP_w13 HV_w13 HSb_w13 HS_w13 HGb_w13 HJ_w13
   clear hb
   go_wp2_with fail
   refine (H2.held2e hA9 hL9 HJ_w14.out).mono ?_
   rintro r w15 ⟨rfl, hb⟩
   have z_w15 : w14.heap.size ≤ w15.heap.size := hb.size
   have HB_w15 := hidLawUnhearW (HB_w14.out.trans (hb.mono HB_w14.out.size))
   have HP_w15 := hidLawUnhearW (HP_w14.out.below hb)
   have HV_w15 := hidLawUnhearW (HV_w14.out.below hb)
   have HSb_w15 := hidLawUnhearW (HSb_w14.out.below hb)
   have HS_w15 := hidLawUnhearW (HS_w14.out.below hb)
   have HGb_w15 := hidLawUnhearW (HGb_w14.out.below hb)
   have HJ_w15 := hidLawUnhearW (HJ_w14.out.below hb)
   clear HB_w14 HP_w14 HV_w14 HSb_w14 HS_w14 HGb_w14 HJ_w14
   clear hb
   have p0 := HP_w15.out.cell (i := 0) rfl
   have p1 := HP_w15.out.cell (i := 1) rfl
   have p2 := HP_w15.out.cell (i := 2) rfl
   have p3 := HP_w15.out.cell (i := 3) rfl
   have p4 := HP_w15.out.cell (i := 4) rfl
   have p5 := HP_w15.out.cell (i := 5) rfl
   have p6 := HP_w15.out.cell (i := 6) rfl
   have v0 := HV_w15.out.cell (i := 0) rfl
   have v1 := HV_w15.out.cell (i := 1) rfl
   have v2 := HV_w15.out.cell (i := 2) rfl
   have v3 := HV_w15.out.cell (i := 3) rfl
   have v4 := HV_w15.out.cell (i := 4) rfl
   have v5 := HV_w15.out.cell (i := 5) rfl
   have v6 := HV_w15.out.cell (i := 6) rfl
   go_wp2_with fail
   clear p0 p1 p2 p3 p4 p5 p6
   clear v0 v1 v2 v3 v4 v5 v6
   go_cut [16, 17, 18] from 19 (fun s16 s17 s18 wc => ∃ PP fak fbk fck fdk fek ffk fgk fhk gak gbk, s16 = .pointer (some ⟨PP, 0, none⟩) ∧ s17 = .slice gak L.length gbk ∧ s18 = .bool b ∧ Below w15.heap.size w15 wc ∧ (w15.heap.size ≤ PP ∧ PP < wc.heap.size) ∧ Bk wc PP 33 #[.int .i64 A.n, .slice fak A.st.r.length fbk, .int .i64 A.st.q, .int .i64 A.st.d, .slice fck A.p.length fdk, .slice fek A.t.length ffk, .slice fgk A.a.length fhk] ∧ A2 (fun k => (w15.heap.size ≤ k ∧ k < wc.heap.size) ∧ k ≠ PP) wc (.agg #[.int .i64 A.n, .slice fak A.st.r.length fbk, .int .i64 A.st.q, .int .i64 A.st.d, .slice fck A.p.length fdk, .slice fek A.t.length ffk, .slice fgk A.a.length fhk]) (.slice gak L.length gbk) A (evsD L))
   case first =>
    refine wp_region_held_drew (S := fun W => W.cell? ⟨w.heap.size, 0, none⟩ = some (.int .i64 p.n) ∧ W.cell? ⟨w.heap.size, 1, none⟩ = some v1 ∧ W.cell? ⟨w.heap.size, 2, none⟩ = some (.int .i64 p.st.q) ∧ W.cell? ⟨w.heap.size, 3, none⟩ = some (.int .i64 p.st.d) ∧ W.cell? ⟨w.heap.size, 4, none⟩ = some v4 ∧ W.cell? ⟨w.heap.size, 5, none⟩ = some v5 ∧ W.cell? ⟨w.heap.size, 6, none⟩ = some v6 ∧ W.cell? ⟨w.heap.size + 1, 0, none⟩ = some (.int .i64 e.t) ∧ W.cell? ⟨w.heap.size + 1, 1, none⟩ = some (.int .i64 e.s) ∧ W.cell? ⟨w.heap.size + 1, 2, none⟩ = some (.int .i64 e.q) ∧ W.cell? ⟨w.heap.size + 1, 3, none⟩ = some (.int .i64 e.d) ∧ W.cell? ⟨w.heap.size + 1, 4, none⟩ = some (.int .i64 e.k) ∧ W.cell? ⟨w.heap.size + 1, 5, none⟩ = some (.int .i64 e.v) ∧ W.cell? ⟨w.heap.size + 1, 6, none⟩ = some (.int .i64 e.g)) (by kernel_rfl) (keepA (HP_w15.out.below (Below.refl w15.heap.size w15).drew) (HV_w15.out.below (Below.refl w15.heap.size w15).drew)) (fun hHeld => ?_)
    refine thLawUnhearW 0 { dst := some 105, op := Op.load 48 (Operand.tmp 2), type := 48, pos := _, after := _, guard := none } (.agg #[.int .i64 p.n, v1, .int .i64 p.st.q, .int .i64 p.st.d, v4, v5, v6]) ?_
    try simp only [Act.put, List.setIfInBounds_toArray, List.set_cons_zero, List.set_cons_succ]
    refine thLawUnhearW 2 { dst := some 107, op := Op.load 50 (Operand.tmp 3), type := 50, pos := _, after := _, guard := none } (.agg #[.int .i64 e.t, .int .i64 e.s, .int .i64 e.q, .int .i64 e.d, .int .i64 e.k, .int .i64 e.v, .int .i64 e.g]) ?_
    try simp only [Act.put, List.setIfInBounds_toArray, List.set_cons_zero, List.set_cons_succ]
    refine wpAnyH_ready (rs := [1, 9]) (by kernel_rfl) (by simp) ?_
    refine AllReadyH.cons (o := { dst := some 106, op := Op.call { callee := Callee.value (Operand.func 18), args := #[Operand.tmp 105], argTypes := #[48] }, type := 33, pos := _, after := _, guard := none }) rfl (fun K hK => ?_) (AllReadyH.cons (o := { dst := some 16, op := Op.alloc 33, type := 0, pos := _, after := _, guard := none }) rfl (fun K hK => ?_) AllReadyH.nil)
    ·go_simp
     refine (toPart_any _ p _ HSM.out (HX.out.below (HB_w15.out.trans (((Below.refl w15.heap.size w15).drew).mono HB_w15.out.size)))).mono ?_
     rintro r wa ⟨ya, rfl, hb, hra⟩
     have hk0 : Below w15.heap.size w15 wa := ((Below.refl w15.heap.size w15).drew).trans (hb.mono ((Below.refl w15.heap.size w15).drew).size)
     have HYA0 : Hid (IsPart wa ya p) := hra.is
     clear hb
     try go_simp
     refine hK.out _ _ (keepA (HP_w15.out.below hk0) (HV_w15.out.below hk0)) (fun hHeld => ?_)
     clear hK K
     try simp only [Act.put, List.setIfInBounds_toArray, List.set_cons_zero, List.set_cons_succ]
     refine wpAnyH_ready (rs := [3, 9]) (by kernel_rfl) (by simp) ?_
     refine AllReadyH.cons (o := { dst := some 108, op := Op.call { callee := Callee.value (Operand.func 19), args := #[Operand.tmp 107], argTypes := #[50] }, type := 55, pos := _, after := _, guard := none }) rfl (fun K hK => ?_) (AllReadyH.cons (o := { dst := some 16, op := Op.alloc 33, type := 0, pos := _, after := _, guard := none }) rfl (fun K hK => ?_) AllReadyH.nil)
     ·go_simp
      refine (toEvent_any e.t e.s e.q e.d e.k e.v e.g _).mono ?_
      rintro r wf ⟨rfl, hb⟩
      have hk1 : Below w15.heap.size w15 wf := (hk0).trans (hb.mono (hk0).size)
      have HYA1 : Hid (IsPart wf ya p) := HYA0.out.below hb
      clear hb
      try go_simp
      refine hK.out _ _ (keepA (HP_w15.out.below hk1) (HV_w15.out.below hk1)) (fun hHeld => ?_)
      clear hK K
      try simp only [Act.put, List.setIfInBounds_toArray, List.set_cons_zero, List.set_cons_succ]
      refine wpAnyH_ready (rs := [4, 9]) (by kernel_rfl) (by simp) ?_
      refine AllReadyH.cons (o := { dst := some 109, op := Op.call { callee := Callee.value (Operand.func 25), args := #[Operand.tmp 106, Operand.tmp 108], argTypes := #[33, 55] }, type := 52, pos := _, after := _, guard := none }) rfl (fun K hK => ?_) (AllReadyH.cons (o := { dst := some 16, op := Op.alloc 33, type := 0, pos := _, after := _, guard := none }) rfl (fun K hK => ?_) AllReadyH.nil)
      ·go_simp
       have hcW : w15.heap.size ≤ wf.heap.size := (hk1).size
       refine (HIM.out _ _ HYA1.out).mono ?_
       rintro r we ⟨ye, le, rfl, hb, hue⟩
       obtain ⟨fak, fbk, fck, fdk, fek, ffk, fgk, fhk, gak, gbk, rfl, rfl⟩ := A2.form (c := 7) (n := L.length) hue
       have hk2 : Below w15.heap.size w15 we := (hk1).trans (hb.mono (hk1).size)
       have HU := hidLawUnhearW hue
       clear hb
       try go_simp
       refine hK.out _ _ (keepA (HP_w15.out.below hk2) (HV_w15.out.below hk2)) (fun hHeld => ?_)
       clear hK K
       try simp only [Act.put, List.setIfInBounds_toArray, List.set_cons_zero, List.set_cons_succ]
       refine thLawUnhearW 5 { dst := some 104, op := Op.move (Operand.tmp 109), type := 52, pos := _, after := _, guard := none } (.tuple #[.agg #[.int .i64 A.n, .slice fak A.st.r.length fbk, .int .i64 A.st.q, .int .i64 A.st.d, .slice fck A.p.length fdk, .slice fek A.t.length ffk, .slice fgk A.a.length fhk], .slice gak L.length gbk, .bool b]) ?_
       try simp only [Act.put, List.setIfInBounds_toArray, List.set_cons_zero, List.set_cons_succ]
       refine thLawUnhearW 6 { dst := some 110, op := Op.extract (Operand.tmp 104) 0, type := 33, pos := _, after := _, guard := none } (.agg #[.int .i64 A.n, .slice fak A.st.r.length fbk, .int .i64 A.st.q, .int .i64 A.st.d, .slice fck A.p.length fdk, .slice fek A.t.length ffk, .slice fgk A.a.length fhk]) ?_
       try simp only [Act.put, List.setIfInBounds_toArray, List.set_cons_zero, List.set_cons_succ]
       refine thLawUnhearW 7 { dst := some 111, op := Op.extract (Operand.tmp 104) 1, type := 31, pos := _, after := _, guard := none } (.slice gak L.length gbk) ?_
       try simp only [Act.put, List.setIfInBounds_toArray, List.set_cons_zero, List.set_cons_succ]
       refine thLawUnhearW 8 { dst := some 112, op := Op.extract (Operand.tmp 104) 2, type := 4, pos := _, after := _, guard := none } (.bool b) ?_
       try simp only [Act.put, List.setIfInBounds_toArray, List.set_cons_zero, List.set_cons_succ]
       refine wpAnyH_ready (rs := [9]) (by kernel_rfl) (by simp) ?_
       refine AllReadyH.cons (o := { dst := some 16, op := Op.alloc 33, type := 0, pos := _, after := _, guard := none }) rfl (fun K hK => ?_) AllReadyH.nil
       go_simp
       refine hK.out _ _ (keepA (HP_w15.out.below ((hk2).alloc (hk2).size (.cells #[.int .i64 0, .slice none 0 0, .int .i64 0, .int .i64 0, .slice none 0 0, .slice none 0 0, .slice none 0 0] 33))) (HV_w15.out.below ((hk2).alloc (hk2).size (.cells #[.int .i64 0, .slice none 0 0, .int .i64 0, .int .i64 0, .slice none 0 0, .slice none 0 0, .slice none 0 0] 33)))) (fun hHeld => ?_)
       clear hK K
       try simp only [Act.put, List.setIfInBounds_toArray, List.set_cons_zero, List.set_cons_succ]
       refine wpAnyH_ready (rs := [10]) (by kernel_rfl) (by simp) ?_
       refine AllReadyH.cons (o := { dst := none, op := Op.store 33 (Operand.tmp 16) (Operand.tmp 110), type := 0, pos := _, after := _, guard := none }) rfl (fun K hK => ?_) AllReadyH.nil
       go_simp
       refine hK.out _ _ (keepA (HP_w15.out.below (hk2.alloc hk2.size (.cells #[.int .i64 A.n, .slice fak A.st.r.length fbk, .int .i64 A.st.q, .int .i64 A.st.d, .slice fck A.p.length fdk, .slice fek A.t.length ffk, .slice fgk A.a.length fhk] 33))) (HV_w15.out.below (hk2.alloc hk2.size (.cells #[.int .i64 A.n, .slice fak A.st.r.length fbk, .int .i64 A.st.q, .int .i64 A.st.d, .slice fck A.p.length fdk, .slice fek A.t.length ffk, .slice fgk A.a.length fhk] 33)))) (fun hHeld => ?_)
       clear hK K
       try simp only [Act.put, List.setIfInBounds_toArray, List.set_cons_zero, List.set_cons_succ]
       refine thLawUnhearW 11 { dst := some 17, op := Op.assign (Operand.tmp 111), type := 31, pos := _, after := _, guard := none } (.slice gak L.length gbk) ?_
       try simp only [Act.put, List.setIfInBounds_toArray, List.set_cons_zero, List.set_cons_succ]
       refine thLawUnhearW 12 { dst := some 18, op := Op.assign (Operand.tmp 112), type := 4, pos := _, after := _, guard := none } (.bool b) ?_
       try simp only [Act.put, List.setIfInBounds_toArray, List.set_cons_zero, List.set_cons_succ]
       refine wpAnyH_done (by kernel_rfl) ?_ _
       go_wp2
       go_meet
       case rel =>
        exact ⟨_, fak, fbk, fck, fdk, fek, ffk, fgk, fhk, gak, gbk, rfl, rfl, rfl, (hk2.alloc hk2.size (.cells #[.int .i64 A.n, .slice fak A.st.r.length fbk, .int .i64 A.st.q, .int .i64 A.st.d, .slice fck A.p.length fdk, .slice fek A.t.length ffk, .slice fgk A.a.length fhk] 33)), ⟨hk2.size, (Bk.new we 33 #[.int .i64 A.n, .slice fak A.st.r.length fbk, .int .i64 A.st.q, .int .i64 A.st.d, .slice fck A.p.length fdk, .slice fek A.t.length ffk, .slice fgk A.a.length fhk]).lt⟩, Bk.new we 33 #[.int .i64 A.n, .slice fak A.st.r.length fbk, .int .i64 A.st.q, .int .i64 A.st.d, .slice fck A.p.length fdk, .slice fek A.t.length ffk, .slice fgk A.a.length fhk], (HU.out.below ((Below.refl _ we).alloc (Nat.le_refl _) _)).mono (fun k e => ⟨⟨by omega, by simp; omega⟩, by omega⟩)⟩
      ·go_simp
       refine hK.out _ _ (keepA (HP_w15.out.below ((hk1).alloc (hk1).size (.cells #[.int .i64 0, .slice none 0 0, .int .i64 0, .int .i64 0, .slice none 0 0, .slice none 0 0, .slice none 0 0] 33))) (HV_w15.out.below ((hk1).alloc (hk1).size (.cells #[.int .i64 0, .slice none 0 0, .int .i64 0, .int .i64 0, .slice none 0 0, .slice none 0 0, .slice none 0 0] 33)))) (fun hHeld => ?_)
       clear hK K
       try simp only [Act.put, List.setIfInBounds_toArray, List.set_cons_zero, List.set_cons_succ]
       refine wpAnyH_ready (rs := [4]) (by kernel_rfl) (by simp) ?_
       refine AllReadyH.cons (o := { dst := some 109, op := Op.call { callee := Callee.value (Operand.func 25), args := #[Operand.tmp 106, Operand.tmp 108], argTypes := #[33, 55] }, type := 52, pos := _, after := _, guard := none }) rfl (fun K hK => ?_) AllReadyH.nil
       go_simp
       have hcW : w15.heap.size ≤ (wf.alloc (.cells #[.int .i64 0, .slice none 0 0, .int .i64 0, .int .i64 0, .slice none 0 0, .slice none 0 0, .slice none 0 0] 33)).heap.size := (((hk1).alloc (hk1).size (.cells #[.int .i64 0, .slice none 0 0, .int .i64 0, .int .i64 0, .slice none 0 0, .slice none 0 0, .slice none 0 0] 33))).size
       have hPW : wf.heap.size < (wf.alloc (.cells #[.int .i64 0, .slice none 0 0, .int .i64 0, .int .i64 0, .slice none 0 0, .slice none 0 0, .slice none 0 0] 33)).heap.size := ((Bk.new wf 33 #[.int .i64 0, .slice none 0 0, .int .i64 0, .int .i64 0, .slice none 0 0, .slice none 0 0, .slice none 0 0] : Bk (wf.alloc (.cells #[.int .i64 0, .slice none 0 0, .int .i64 0, .int .i64 0, .slice none 0 0, .slice none 0 0, .slice none 0 0] 33)) wf.heap.size 33 #[.int .i64 0, .slice none 0 0, .int .i64 0, .int .i64 0, .slice none 0 0, .slice none 0 0, .slice none 0 0])).lt
       refine (HIM.out _ _ (HYA1.out.below ((Below.refl _ wf).alloc (Nat.le_refl _) _))).mono ?_
       rintro r we ⟨ye, le, rfl, hb, hue⟩
       obtain ⟨fak, fbk, fck, fdk, fek, ffk, fgk, fhk, gak, gbk, rfl, rfl⟩ := A2.form (c := 7) (n := L.length) hue
       have hk2 : Below w15.heap.size w15 we := (((hk1).alloc (hk1).size (.cells #[.int .i64 0, .slice none 0 0, .int .i64 0, .int .i64 0, .slice none 0 0, .slice none 0 0, .slice none 0 0] 33))).trans (hb.mono (((hk1).alloc (hk1).size (.cells #[.int .i64 0, .slice none 0 0, .int .i64 0, .int .i64 0, .slice none 0 0, .slice none 0 0, .slice none 0 0] 33))).size)
       have hz2 : Bk we wf.heap.size 33 #[.int .i64 0, .slice none 0 0, .int .i64 0, .int .i64 0, .slice none 0 0, .slice none 0 0, .slice none 0 0] := ((Bk.new wf 33 #[.int .i64 0, .slice none 0 0, .int .i64 0, .int .i64 0, .slice none 0 0, .slice none 0 0, .slice none 0 0] : Bk (wf.alloc (.cells #[.int .i64 0, .slice none 0 0, .int .i64 0, .int .i64 0, .slice none 0 0, .slice none 0 0, .slice none 0 0] 33)) wf.heap.size 33 #[.int .i64 0, .slice none 0 0, .int .i64 0, .int .i64 0, .slice none 0 0, .slice none 0 0, .slice none 0 0])).below hb
       have HU := hidLawUnhearW hue
       clear hb
       try go_simp
       refine hK.out _ _ (keepA (HP_w15.out.below hk2) (HV_w15.out.below hk2)) (fun hHeld => ?_)
       clear hK K
       try simp only [Act.put, List.setIfInBounds_toArray, List.set_cons_zero, List.set_cons_succ]
       refine thLawUnhearW 5 { dst := some 104, op := Op.move (Operand.tmp 109), type := 52, pos := _, after := _, guard := none } (.tuple #[.agg #[.int .i64 A.n, .slice fak A.st.r.length fbk, .int .i64 A.st.q, .int .i64 A.st.d, .slice fck A.p.length fdk, .slice fek A.t.length ffk, .slice fgk A.a.length fhk], .slice gak L.length gbk, .bool b]) ?_
       try simp only [Act.put, List.setIfInBounds_toArray, List.set_cons_zero, List.set_cons_succ]
       refine thLawUnhearW 6 { dst := some 110, op := Op.extract (Operand.tmp 104) 0, type := 33, pos := _, after := _, guard := none } (.agg #[.int .i64 A.n, .slice fak A.st.r.length fbk, .int .i64 A.st.q, .int .i64 A.st.d, .slice fck A.p.length fdk, .slice fek A.t.length ffk, .slice fgk A.a.length fhk]) ?_
       try simp only [Act.put, List.setIfInBounds_toArray, List.set_cons_zero, List.set_cons_succ]
       refine thLawUnhearW 7 { dst := some 111, op := Op.extract (Operand.tmp 104) 1, type := 31, pos := _, after := _, guard := none } (.slice gak L.length gbk) ?_
       try simp only [Act.put, List.setIfInBounds_toArray, List.set_cons_zero, List.set_cons_succ]
       refine thLawUnhearW 8 { dst := some 112, op := Op.extract (Operand.tmp 104) 2, type := 4, pos := _, after := _, guard := none } (.bool b) ?_
       try simp only [Act.put, List.setIfInBounds_toArray, List.set_cons_zero, List.set_cons_succ]
       have zc0 := hz2.cell (i := 0) rfl
       have zc1 := hz2.cell (i := 1) rfl
       have zc2 := hz2.cell (i := 2) rfl
       have zc3 := hz2.cell (i := 3) rfl
       have zc4 := hz2.cell (i := 4) rfl
       have zc5 := hz2.cell (i := 5) rfl
       have zc6 := hz2.cell (i := 6) rfl
       have zf := hz2.free
       have hPlo : w15.heap.size ≤ wf.heap.size := (hk1).size
       have hpt := put7s_turns we (wf.heap.size) (.int .i64 A.n) (.slice fak A.st.r.length fbk) (.int .i64 A.st.q) (.int .i64 A.st.d) (.slice fck A.p.length fdk) (.slice fek A.t.length ffk) (.slice fgk A.a.length fhk)
       have T3 : Below w15.heap.size w15 (put7s we (wf.heap.size) (.int .i64 A.n) (.slice fak A.st.r.length fbk) (.int .i64 A.st.q) (.int .i64 A.st.d) (.slice fck A.p.length fdk) (.slice fek A.t.length ffk) (.slice fgk A.a.length fhk)) := hk2.trans (hpt.to_below (fun k e => by rw [show k = wf.heap.size from e]; exact hPlo) hk2.size)
       refine wpAnyH_ready (rs := [10]) (by kernel_rfl) (by simp) ?_
       refine AllReadyH.cons (o := { dst := none, op := Op.store 33 (Operand.tmp 16) (Operand.tmp 110), type := 0, pos := _, after := _, guard := none }) rfl (fun K hK => ?_) AllReadyH.nil
       go_simp
       refine hK.out _ _ (keepA (HP_w15.out.below T3) (HV_w15.out.below T3)) (fun hHeld => ?_)
       clear hK K
       try simp only [Act.put, List.setIfInBounds_toArray, List.set_cons_zero, List.set_cons_succ]
       refine thLawUnhearW 11 { dst := some 17, op := Op.assign (Operand.tmp 111), type := 31, pos := _, after := _, guard := none } (.slice gak L.length gbk) ?_
       try simp only [Act.put, List.setIfInBounds_toArray, List.set_cons_zero, List.set_cons_succ]
       refine thLawUnhearW 12 { dst := some 18, op := Op.assign (Operand.tmp 112), type := 4, pos := _, after := _, guard := none } (.bool b) ?_
       try simp only [Act.put, List.setIfInBounds_toArray, List.set_cons_zero, List.set_cons_succ]
       refine wpAnyH_done (by kernel_rfl) ?_ _
       go_wp2
       go_meet
       case rel =>
        exact ⟨_, fak, fbk, fck, fdk, fek, ffk, fgk, fhk, gak, gbk, rfl, rfl, rfl, T3, ⟨hPlo, (hz2.put7s (.int .i64 A.n) (.slice fak A.st.r.length fbk) (.int .i64 A.st.q) (.int .i64 A.st.d) (.slice fck A.p.length fdk) (.slice fek A.t.length ffk) (.slice fgk A.a.length fhk)).lt⟩, hz2.put7s (.int .i64 A.n) (.slice fak A.st.r.length fbk) (.int .i64 A.st.q) (.int .i64 A.st.d) (.slice fck A.p.length fdk) (.slice fek A.t.length ffk) (.slice fgk A.a.length fhk), (HU.out.turns hpt (fun k e1 e2 => by have e3 : k = wf.heap.size := e2; omega)).mono (fun k e => ⟨⟨by omega, Nat.lt_of_lt_of_le e.2 hpt.size⟩, by omega⟩)⟩
     ·go_simp
      refine hK.out _ _ (keepA (HP_w15.out.below ((hk0).alloc (hk0).size (.cells #[.int .i64 0, .slice none 0 0, .int .i64 0, .int .i64 0, .slice none 0 0, .slice none 0 0, .slice none 0 0] 33))) (HV_w15.out.below ((hk0).alloc (hk0).size (.cells #[.int .i64 0, .slice none 0 0, .int .i64 0, .int .i64 0, .slice none 0 0, .slice none 0 0, .slice none 0 0] 33)))) (fun hHeld => ?_)
      clear hK K
      try simp only [Act.put, List.setIfInBounds_toArray, List.set_cons_zero, List.set_cons_succ]
      refine wpAnyH_ready (rs := [3]) (by kernel_rfl) (by simp) ?_
      refine AllReadyH.cons (o := { dst := some 108, op := Op.call { callee := Callee.value (Operand.func 19), args := #[Operand.tmp 107], argTypes := #[50] }, type := 55, pos := _, after := _, guard := none }) rfl (fun K hK => ?_) AllReadyH.nil
      go_simp
      refine (toEvent_any e.t e.s e.q e.d e.k e.v e.g _).mono ?_
      rintro r wf ⟨rfl, hb⟩
      have hk1 : Below w15.heap.size w15 wf := (((hk0).alloc (hk0).size (.cells #[.int .i64 0, .slice none 0 0, .int .i64 0, .int .i64 0, .slice none 0 0, .slice none 0 0, .slice none 0 0] 33))).trans (hb.mono (((hk0).alloc (hk0).size (.cells #[.int .i64 0, .slice none 0 0, .int .i64 0, .int .i64 0, .slice none 0 0, .slice none 0 0, .slice none 0 0] 33))).size)
      have hz1 : Bk wf wa.heap.size 33 #[.int .i64 0, .slice none 0 0, .int .i64 0, .int .i64 0, .slice none 0 0, .slice none 0 0, .slice none 0 0] := ((Bk.new wa 33 #[.int .i64 0, .slice none 0 0, .int .i64 0, .int .i64 0, .slice none 0 0, .slice none 0 0, .slice none 0 0] : Bk (wa.alloc (.cells #[.int .i64 0, .slice none 0 0, .int .i64 0, .int .i64 0, .slice none 0 0, .slice none 0 0, .slice none 0 0] 33)) wa.heap.size 33 #[.int .i64 0, .slice none 0 0, .int .i64 0, .int .i64 0, .slice none 0 0, .slice none 0 0, .slice none 0 0])).below hb
      have HYA1 : Hid (IsPart wf ya p) := (HYA0.out.below ((Below.refl _ wa).alloc (Nat.le_refl _) _)).below hb
      clear hb
      try go_simp
      refine hK.out _ _ (keepA (HP_w15.out.below hk1) (HV_w15.out.below hk1)) (fun hHeld => ?_)
      clear hK K
      try simp only [Act.put, List.setIfInBounds_toArray, List.set_cons_zero, List.set_cons_succ]
      refine wpAnyH_ready (rs := [4]) (by kernel_rfl) (by simp) ?_
      refine AllReadyH.cons (o := { dst := some 109, op := Op.call { callee := Callee.value (Operand.func 25), args := #[Operand.tmp 106, Operand.tmp 108], argTypes := #[33, 55] }, type := 52, pos := _, after := _, guard := none }) rfl (fun K hK => ?_) AllReadyH.nil
      go_simp
      have hcW : w15.heap.size ≤ wf.heap.size := (hk1).size
      have hPW : wa.heap.size < wf.heap.size := (hz1).lt
      refine (HIM.out _ _ HYA1.out).mono ?_
      rintro r we ⟨ye, le, rfl, hb, hue⟩
      obtain ⟨fak, fbk, fck, fdk, fek, ffk, fgk, fhk, gak, gbk, rfl, rfl⟩ := A2.form (c := 7) (n := L.length) hue
      have hk2 : Below w15.heap.size w15 we := (hk1).trans (hb.mono (hk1).size)
      have hz2 : Bk we wa.heap.size 33 #[.int .i64 0, .slice none 0 0, .int .i64 0, .int .i64 0, .slice none 0 0, .slice none 0 0, .slice none 0 0] := (hz1).below hb
      have HU := hidLawUnhearW hue
      clear hb
      try go_simp
      refine hK.out _ _ (keepA (HP_w15.out.below hk2) (HV_w15.out.below hk2)) (fun hHeld => ?_)
      clear hK K
      try simp only [Act.put, List.setIfInBounds_toArray, List.set_cons_zero, List.set_cons_succ]
      refine thLawUnhearW 5 { dst := some 104, op := Op.move (Operand.tmp 109), type := 52, pos := _, after := _, guard := none } (.tuple #[.agg #[.int .i64 A.n, .slice fak A.st.r.length fbk, .int .i64 A.st.q, .int .i64 A.st.d, .slice fck A.p.length fdk, .slice fek A.t.length ffk, .slice fgk A.a.length fhk], .slice gak L.length gbk, .bool b]) ?_
      try simp only [Act.put, List.setIfInBounds_toArray, List.set_cons_zero, List.set_cons_succ]
      refine thLawUnhearW 6 { dst := some 110, op := Op.extract (Operand.tmp 104) 0, type := 33, pos := _, after := _, guard := none } (.agg #[.int .i64 A.n, .slice fak A.st.r.length fbk, .int .i64 A.st.q, .int .i64 A.st.d, .slice fck A.p.length fdk, .slice fek A.t.length ffk, .slice fgk A.a.length fhk]) ?_
      try simp only [Act.put, List.setIfInBounds_toArray, List.set_cons_zero, List.set_cons_succ]
      refine thLawUnhearW 7 { dst := some 111, op := Op.extract (Operand.tmp 104) 1, type := 31, pos := _, after := _, guard := none } (.slice gak L.length gbk) ?_
      try simp only [Act.put, List.setIfInBounds_toArray, List.set_cons_zero, List.set_cons_succ]
      refine thLawUnhearW 8 { dst := some 112, op := Op.extract (Operand.tmp 104) 2, type := 4, pos := _, after := _, guard := none } (.bool b) ?_
      try simp only [Act.put, List.setIfInBounds_toArray, List.set_cons_zero, List.set_cons_succ]
      have zc0 := hz2.cell (i := 0) rfl
      have zc1 := hz2.cell (i := 1) rfl
      have zc2 := hz2.cell (i := 2) rfl
      have zc3 := hz2.cell (i := 3) rfl
      have zc4 := hz2.cell (i := 4) rfl
      have zc5 := hz2.cell (i := 5) rfl
      have zc6 := hz2.cell (i := 6) rfl
      have zf := hz2.free
      have hPlo : w15.heap.size ≤ wa.heap.size := (hk0).size
      have hpt := put7s_turns we (wa.heap.size) (.int .i64 A.n) (.slice fak A.st.r.length fbk) (.int .i64 A.st.q) (.int .i64 A.st.d) (.slice fck A.p.length fdk) (.slice fek A.t.length ffk) (.slice fgk A.a.length fhk)
      have T3 : Below w15.heap.size w15 (put7s we (wa.heap.size) (.int .i64 A.n) (.slice fak A.st.r.length fbk) (.int .i64 A.st.q) (.int .i64 A.st.d) (.slice fck A.p.length fdk) (.slice fek A.t.length ffk) (.slice fgk A.a.length fhk)) := hk2.trans (hpt.to_below (fun k e => by rw [show k = wa.heap.size from e]; exact hPlo) hk2.size)
      refine wpAnyH_ready (rs := [10]) (by kernel_rfl) (by simp) ?_
      refine AllReadyH.cons (o := { dst := none, op := Op.store 33 (Operand.tmp 16) (Operand.tmp 110), type := 0, pos := _, after := _, guard := none }) rfl (fun K hK => ?_) AllReadyH.nil
      go_simp
      refine hK.out _ _ (keepA (HP_w15.out.below T3) (HV_w15.out.below T3)) (fun hHeld => ?_)
      clear hK K
      try simp only [Act.put, List.setIfInBounds_toArray, List.set_cons_zero, List.set_cons_succ]
      refine thLawUnhearW 11 { dst := some 17, op := Op.assign (Operand.tmp 111), type := 31, pos := _, after := _, guard := none } (.slice gak L.length gbk) ?_
      try simp only [Act.put, List.setIfInBounds_toArray, List.set_cons_zero, List.set_cons_succ]
      refine thLawUnhearW 12 { dst := some 18, op := Op.assign (Operand.tmp 112), type := 4, pos := _, after := _, guard := none } (.bool b) ?_
      try simp only [Act.put, List.setIfInBounds_toArray, List.set_cons_zero, List.set_cons_succ]
      refine wpAnyH_done (by kernel_rfl) ?_ _
      go_wp2
      go_meet
      case rel =>
       exact ⟨_, fak, fbk, fck, fdk, fek, ffk, fgk, fhk, gak, gbk, rfl, rfl, rfl, T3, ⟨hPlo, (hz2.put7s (.int .i64 A.n) (.slice fak A.st.r.length fbk) (.int .i64 A.st.q) (.int .i64 A.st.d) (.slice fck A.p.length fdk) (.slice fek A.t.length ffk) (.slice fgk A.a.length fhk)).lt⟩, hz2.put7s (.int .i64 A.n) (.slice fak A.st.r.length fbk) (.int .i64 A.st.q) (.int .i64 A.st.d) (.slice fck A.p.length fdk) (.slice fek A.t.length ffk) (.slice fgk A.a.length fhk), (HU.out.turns hpt (fun k e1 e2 => by have e3 : k = wa.heap.size := e2; omega)).mono (fun k e => ⟨⟨by omega, Nat.lt_of_lt_of_le e.2 hpt.size⟩, by omega⟩)⟩
    ·go_simp
     refine hK.out _ _ (keepA (HP_w15.out.below (((Below.refl w15.heap.size w15).drew).alloc ((Below.refl w15.heap.size w15).drew).size (.cells #[.int .i64 0, .slice none 0 0, .int .i64 0, .int .i64 0, .slice none 0 0, .slice none 0 0, .slice none 0 0] 33))) (HV_w15.out.below (((Below.refl w15.heap.size w15).drew).alloc ((Below.refl w15.heap.size w15).drew).size (.cells #[.int .i64 0, .slice none 0 0, .int .i64 0, .int .i64 0, .slice none 0 0, .slice none 0 0, .slice none 0 0] 33)))) (fun hHeld => ?_)
     clear hK K
     try simp only [Act.put, List.setIfInBounds_toArray, List.set_cons_zero, List.set_cons_succ]
     refine wpAnyH_ready (rs := [1]) (by kernel_rfl) (by simp) ?_
     refine AllReadyH.cons (o := { dst := some 106, op := Op.call { callee := Callee.value (Operand.func 18), args := #[Operand.tmp 105], argTypes := #[48] }, type := 33, pos := _, after := _, guard := none }) rfl (fun K hK => ?_) AllReadyH.nil
     go_simp
     refine (toPart_any _ p _ HSM.out (HX.out.below (HB_w15.out.trans (((((Below.refl w15.heap.size w15).drew).alloc ((Below.refl w15.heap.size w15).drew).size (.cells #[.int .i64 0, .slice none 0 0, .int .i64 0, .int .i64 0, .slice none 0 0, .slice none 0 0, .slice none 0 0] 33))).mono HB_w15.out.size)))).mono ?_
     rintro r wa ⟨ya, rfl, hb, hra⟩
     have hk0 : Below w15.heap.size w15 wa := ((((Below.refl w15.heap.size w15).drew).alloc ((Below.refl w15.heap.size w15).drew).size (.cells #[.int .i64 0, .slice none 0 0, .int .i64 0, .int .i64 0, .slice none 0 0, .slice none 0 0, .slice none 0 0] 33))).trans (hb.mono ((((Below.refl w15.heap.size w15).drew).alloc ((Below.refl w15.heap.size w15).drew).size (.cells #[.int .i64 0, .slice none 0 0, .int .i64 0, .int .i64 0, .slice none 0 0, .slice none 0 0, .slice none 0 0] 33))).size)
     have hz0 : Bk wa w15.heap.size 33 #[.int .i64 0, .slice none 0 0, .int .i64 0, .int .i64 0, .slice none 0 0, .slice none 0 0, .slice none 0 0] := ((Bk.new w15.drew 33 #[.int .i64 0, .slice none 0 0, .int .i64 0, .int .i64 0, .slice none 0 0, .slice none 0 0, .slice none 0 0] : Bk (w15.drew.alloc (.cells #[.int .i64 0, .slice none 0 0, .int .i64 0, .int .i64 0, .slice none 0 0, .slice none 0 0, .slice none 0 0] 33)) w15.heap.size 33 #[.int .i64 0, .slice none 0 0, .int .i64 0, .int .i64 0, .slice none 0 0, .slice none 0 0, .slice none 0 0])).below hb
     have HYA0 : Hid (IsPart wa ya p) := hra.is
     clear hb
     try go_simp
     refine hK.out _ _ (keepA (HP_w15.out.below hk0) (HV_w15.out.below hk0)) (fun hHeld => ?_)
     clear hK K
     try simp only [Act.put, List.setIfInBounds_toArray, List.set_cons_zero, List.set_cons_succ]
     refine wpAnyH_ready (rs := [3]) (by kernel_rfl) (by simp) ?_
     refine AllReadyH.cons (o := { dst := some 108, op := Op.call { callee := Callee.value (Operand.func 19), args := #[Operand.tmp 107], argTypes := #[50] }, type := 55, pos := _, after := _, guard := none }) rfl (fun K hK => ?_) AllReadyH.nil
     go_simp
     refine (toEvent_any e.t e.s e.q e.d e.k e.v e.g _).mono ?_
     rintro r wf ⟨rfl, hb⟩
     have hk1 : Below w15.heap.size w15 wf := (hk0).trans (hb.mono (hk0).size)
     have hz1 : Bk wf w15.heap.size 33 #[.int .i64 0, .slice none 0 0, .int .i64 0, .int .i64 0, .slice none 0 0, .slice none 0 0, .slice none 0 0] := (hz0).below hb
     have HYA1 : Hid (IsPart wf ya p) := HYA0.out.below hb
     clear hb
     try go_simp
     refine hK.out _ _ (keepA (HP_w15.out.below hk1) (HV_w15.out.below hk1)) (fun hHeld => ?_)
     clear hK K
     try simp only [Act.put, List.setIfInBounds_toArray, List.set_cons_zero, List.set_cons_succ]
     refine wpAnyH_ready (rs := [4]) (by kernel_rfl) (by simp) ?_
     refine AllReadyH.cons (o := { dst := some 109, op := Op.call { callee := Callee.value (Operand.func 25), args := #[Operand.tmp 106, Operand.tmp 108], argTypes := #[33, 55] }, type := 52, pos := _, after := _, guard := none }) rfl (fun K hK => ?_) AllReadyH.nil
     go_simp
     have hcW : w15.heap.size ≤ wf.heap.size := (hk1).size
     have hPW : w15.heap.size < wf.heap.size := (hz1).lt
     refine (HIM.out _ _ HYA1.out).mono ?_
     rintro r we ⟨ye, le, rfl, hb, hue⟩
     obtain ⟨fak, fbk, fck, fdk, fek, ffk, fgk, fhk, gak, gbk, rfl, rfl⟩ := A2.form (c := 7) (n := L.length) hue
     have hk2 : Below w15.heap.size w15 we := (hk1).trans (hb.mono (hk1).size)
     have hz2 : Bk we w15.heap.size 33 #[.int .i64 0, .slice none 0 0, .int .i64 0, .int .i64 0, .slice none 0 0, .slice none 0 0, .slice none 0 0] := (hz1).below hb
     have HU := hidLawUnhearW hue
     clear hb
     try go_simp
     refine hK.out _ _ (keepA (HP_w15.out.below hk2) (HV_w15.out.below hk2)) (fun hHeld => ?_)
     clear hK K
     try simp only [Act.put, List.setIfInBounds_toArray, List.set_cons_zero, List.set_cons_succ]
     refine thLawUnhearW 5 { dst := some 104, op := Op.move (Operand.tmp 109), type := 52, pos := _, after := _, guard := none } (.tuple #[.agg #[.int .i64 A.n, .slice fak A.st.r.length fbk, .int .i64 A.st.q, .int .i64 A.st.d, .slice fck A.p.length fdk, .slice fek A.t.length ffk, .slice fgk A.a.length fhk], .slice gak L.length gbk, .bool b]) ?_
     try simp only [Act.put, List.setIfInBounds_toArray, List.set_cons_zero, List.set_cons_succ]
     refine thLawUnhearW 6 { dst := some 110, op := Op.extract (Operand.tmp 104) 0, type := 33, pos := _, after := _, guard := none } (.agg #[.int .i64 A.n, .slice fak A.st.r.length fbk, .int .i64 A.st.q, .int .i64 A.st.d, .slice fck A.p.length fdk, .slice fek A.t.length ffk, .slice fgk A.a.length fhk]) ?_
     try simp only [Act.put, List.setIfInBounds_toArray, List.set_cons_zero, List.set_cons_succ]
     refine thLawUnhearW 7 { dst := some 111, op := Op.extract (Operand.tmp 104) 1, type := 31, pos := _, after := _, guard := none } (.slice gak L.length gbk) ?_
     try simp only [Act.put, List.setIfInBounds_toArray, List.set_cons_zero, List.set_cons_succ]
     refine thLawUnhearW 8 { dst := some 112, op := Op.extract (Operand.tmp 104) 2, type := 4, pos := _, after := _, guard := none } (.bool b) ?_
     try simp only [Act.put, List.setIfInBounds_toArray, List.set_cons_zero, List.set_cons_succ]
     have zc0 := hz2.cell (i := 0) rfl
     have zc1 := hz2.cell (i := 1) rfl
     have zc2 := hz2.cell (i := 2) rfl
     have zc3 := hz2.cell (i := 3) rfl
     have zc4 := hz2.cell (i := 4) rfl
     have zc5 := hz2.cell (i := 5) rfl
     have zc6 := hz2.cell (i := 6) rfl
     have zf := hz2.free
     have hPlo : w15.heap.size ≤ w15.heap.size := ((Below.refl w15.heap.size w15)).size
     have hpt := put7s_turns we (w15.heap.size) (.int .i64 A.n) (.slice fak A.st.r.length fbk) (.int .i64 A.st.q) (.int .i64 A.st.d) (.slice fck A.p.length fdk) (.slice fek A.t.length ffk) (.slice fgk A.a.length fhk)
     have T3 : Below w15.heap.size w15 (put7s we (w15.heap.size) (.int .i64 A.n) (.slice fak A.st.r.length fbk) (.int .i64 A.st.q) (.int .i64 A.st.d) (.slice fck A.p.length fdk) (.slice fek A.t.length ffk) (.slice fgk A.a.length fhk)) := hk2.trans (hpt.to_below (fun k e => by rw [show k = w15.heap.size from e]; exact hPlo) hk2.size)
     refine wpAnyH_ready (rs := [10]) (by kernel_rfl) (by simp) ?_
     refine AllReadyH.cons (o := { dst := none, op := Op.store 33 (Operand.tmp 16) (Operand.tmp 110), type := 0, pos := _, after := _, guard := none }) rfl (fun K hK => ?_) AllReadyH.nil
     go_simp
     refine hK.out _ _ (keepA (HP_w15.out.below T3) (HV_w15.out.below T3)) (fun hHeld => ?_)
     clear hK K
     try simp only [Act.put, List.setIfInBounds_toArray, List.set_cons_zero, List.set_cons_succ]
     refine thLawUnhearW 11 { dst := some 17, op := Op.assign (Operand.tmp 111), type := 31, pos := _, after := _, guard := none } (.slice gak L.length gbk) ?_
     try simp only [Act.put, List.setIfInBounds_toArray, List.set_cons_zero, List.set_cons_succ]
     refine thLawUnhearW 12 { dst := some 18, op := Op.assign (Operand.tmp 112), type := 4, pos := _, after := _, guard := none } (.bool b) ?_
     try simp only [Act.put, List.setIfInBounds_toArray, List.set_cons_zero, List.set_cons_succ]
     refine wpAnyH_done (by kernel_rfl) ?_ _
     go_wp2
     go_meet
     case rel =>
      exact ⟨_, fak, fbk, fck, fdk, fek, ffk, fgk, fhk, gak, gbk, rfl, rfl, rfl, T3, ⟨hPlo, (hz2.put7s (.int .i64 A.n) (.slice fak A.st.r.length fbk) (.int .i64 A.st.q) (.int .i64 A.st.d) (.slice fck A.p.length fdk) (.slice fek A.t.length ffk) (.slice fgk A.a.length fhk)).lt⟩, hz2.put7s (.int .i64 A.n) (.slice fak A.st.r.length fbk) (.int .i64 A.st.q) (.int .i64 A.st.d) (.slice fck A.p.length fdk) (.slice fek A.t.length ffk) (.slice fgk A.a.length fhk), (HU.out.turns hpt (fun k e1 e2 => by have e3 : k = w15.heap.size := e2; omega)).mono (fun k e => ⟨⟨by omega, Nat.lt_of_lt_of_le e.2 hpt.size⟩, by omega⟩)⟩
   case rest =>
    rename World => w16
    obtain ⟨PPk, fak, fbk, fck, fdk, fek, ffk, fgk, fhk, gak, gbk, rfl, rfl, rfl, hb, ⟨hPlk, hPhk⟩, hBk, hAn⟩ := hcut
    have z_w16 : w15.heap.size ≤ w16.heap.size := hb.size
    have HB_w16 := hidLawUnhearW (HB_w15.out.trans (hb.mono HB_w15.out.size))
    have HP_w16 := hidLawUnhearW (HP_w15.out.below hb)
    have HV_w16 := hidLawUnhearW (HV_w15.out.below hb)
    have HSb_w16 := hidLawUnhearW (HSb_w15.out.below hb)
    have HS_w16 := hidLawUnhearW (HS_w15.out.below hb)
    have HGb_w16 := hidLawUnhearW (HGb_w15.out.below hb)
    have HJ_w16 := hidLawUnhearW (HJ_w15.out.below hb)
    clear HB_w15 HP_w15 HV_w15 HSb_w15 HS_w15 HGb_w15 HJ_w15
    have HKb_w16 := hidLawUnhearW hBk
    have HK_w16 := hidLawUnhearW hAn
    clear hb hBk hAn
    have g0 := HKb_w16.out.cell (i := 0) rfl
    have g1 := HKb_w16.out.cell (i := 1) rfl
    have g2 := HKb_w16.out.cell (i := 2) rfl
    have g3 := HKb_w16.out.cell (i := 3) rfl
    have g4 := HKb_w16.out.cell (i := 4) rfl
    have g5 := HKb_w16.out.cell (i := 5) rfl
    have g6 := HKb_w16.out.cell (i := 6) rfl
    have t0 := HSb_w16.out.cell (i := 0) rfl
    have t1 := HSb_w16.out.cell (i := 1) rfl
    have t2 := HSb_w16.out.cell (i := 2) rfl
    have t3 := HSb_w16.out.cell (i := 3) rfl
    have t4 := HSb_w16.out.cell (i := 4) rfl
    have t5 := HSb_w16.out.cell (i := 5) rfl
    have t6 := HSb_w16.out.cell (i := 6) rfl
    go_wp2_with fail
    clear g0 g1 g2 g3 g4 g5 g6
    clear t0 t1 t2 t3 t4 t5 t6
    refine (eqPart_same _ _ A _ HA.out HK_w16.out.part HS_w16.out.part).mono ?_
    rintro r w17 ⟨rfl, hb⟩
    have z_w17 : w16.heap.size ≤ w17.heap.size := hb.size
    have HB_w17 := hidLawUnhearW (HB_w16.out.trans (hb.mono HB_w16.out.size))
    have HP_w17 := hidLawUnhearW (HP_w16.out.below hb)
    have HV_w17 := hidLawUnhearW (HV_w16.out.below hb)
    have HSb_w17 := hidLawUnhearW (HSb_w16.out.below hb)
    have HS_w17 := hidLawUnhearW (HS_w16.out.below hb)
    have HGb_w17 := hidLawUnhearW (HGb_w16.out.below hb)
    have HJ_w17 := hidLawUnhearW (HJ_w16.out.below hb)
    have HKb_w17 := hidLawUnhearW (HKb_w16.out.below hb)
    have HK_w17 := hidLawUnhearW (HK_w16.out.below hb)
    clear HB_w16 HP_w16 HV_w16 HSb_w16 HS_w16 HGb_w16 HJ_w16 HKb_w16 HK_w16
    clear hb
    go_wp2_with fail
    refine (eq_evs _ _ L _ (by have := HL.out; rw [evs_wt] at this; exact this) HK_w17.out.list HS_w17.out.list).mono ?_
    rintro r w18 ⟨rfl, hb⟩
    have z_w18 : w17.heap.size ≤ w18.heap.size := hb.size
    have HB_w18 := hidLawUnhearW (HB_w17.out.trans (hb.mono HB_w17.out.size))
    have HP_w18 := hidLawUnhearW (HP_w17.out.below hb)
    have HV_w18 := hidLawUnhearW (HV_w17.out.below hb)
    have HSb_w18 := hidLawUnhearW (HSb_w17.out.below hb)
    have HS_w18 := hidLawUnhearW (HS_w17.out.below hb)
    have HGb_w18 := hidLawUnhearW (HGb_w17.out.below hb)
    have HJ_w18 := hidLawUnhearW (HJ_w17.out.below hb)
    have HKb_w18 := hidLawUnhearW (HKb_w17.out.below hb)
    have HK_w18 := hidLawUnhearW (HK_w17.out.below hb)
    clear HB_w17 HP_w17 HV_w17 HSb_w17 HS_w17 HGb_w17 HJ_w17 HKb_w17 HK_w17
    clear hb
    have g0 := HGb_w18.out.cell (i := 0) rfl
    have g1 := HGb_w18.out.cell (i := 1) rfl
    have g2 := HGb_w18.out.cell (i := 2) rfl
    have g3 := HGb_w18.out.cell (i := 3) rfl
    have g4 := HGb_w18.out.cell (i := 4) rfl
    have g5 := HGb_w18.out.cell (i := 5) rfl
    have g6 := HGb_w18.out.cell (i := 6) rfl
    go_wp2_with fail
    clear g0 g1 g2 g3 g4 g5 g6
    refine (H2.held1 hA9 HJ_w18.out).mono ?_
    rintro r w19 ⟨rfl, hb⟩
    have z_w19 : w18.heap.size ≤ w19.heap.size := hb.size
    have HB_w19 := hidLawUnhearW (HB_w18.out.trans (hb.mono HB_w18.out.size))
    have HP_w19 := hidLawUnhearW (HP_w18.out.below hb)
    have HV_w19 := hidLawUnhearW (HV_w18.out.below hb)
    have HSb_w19 := hidLawUnhearW (HSb_w18.out.below hb)
    have HS_w19 := hidLawUnhearW (HS_w18.out.below hb)
    have HGb_w19 := hidLawUnhearW (HGb_w18.out.below hb)
    have HJ_w19 := hidLawUnhearW (HJ_w18.out.below hb)
    have HKb_w19 := hidLawUnhearW (HKb_w18.out.below hb)
    have HK_w19 := hidLawUnhearW (HK_w18.out.below hb)
    clear HB_w18 HP_w18 HV_w18 HSb_w18 HS_w18 HGb_w18 HJ_w18 HKb_w18 HK_w18
    clear hb
    go_wp2_with fail
    refine (H2.held2e hA9 hL9 HJ_w19.out).mono ?_
    rintro r w20 ⟨rfl, hb⟩
    have z_w20 : w19.heap.size ≤ w20.heap.size := hb.size
    have HB_w20 := hidLawUnhearW (HB_w19.out.trans (hb.mono HB_w19.out.size))
    have HP_w20 := hidLawUnhearW (HP_w19.out.below hb)
    have HV_w20 := hidLawUnhearW (HV_w19.out.below hb)
    have HSb_w20 := hidLawUnhearW (HSb_w19.out.below hb)
    have HS_w20 := hidLawUnhearW (HS_w19.out.below hb)
    have HGb_w20 := hidLawUnhearW (HGb_w19.out.below hb)
    have HJ_w20 := hidLawUnhearW (HJ_w19.out.below hb)
    have HKb_w20 := hidLawUnhearW (HKb_w19.out.below hb)
    have HK_w20 := hidLawUnhearW (HK_w19.out.below hb)
    clear HB_w19 HP_w19 HV_w19 HSb_w19 HS_w19 HGb_w19 HJ_w19 HKb_w19 HK_w19
    clear hb
    go_wp2
    go_ret
    exact ⟨rfl, HB_w20.out⟩
end Go.Proofs.YtnccenbkpocjgaaGreat.LawExactUnhear
