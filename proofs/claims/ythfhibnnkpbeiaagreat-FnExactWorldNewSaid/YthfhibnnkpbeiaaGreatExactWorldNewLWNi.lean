/- The program's WorldNew. -/
import Derived.Test.YthfhibnnkpbeiaaGreatExactWorldNewG01
import Derived.Test.YthfhibnnkpbeiaaGreatExactWorldNewG33
import Derived.Test.YthfhibnnkpbeiaaGreatExactWorldNewLKIn
import Derived.Deep.Cut
namespace Go.Proofs.YthfhibnnkpbeiaaGreat
open Go.RowKit
theorem thWNi {P : Program} {md : Region.Mode} {ops : Array Oper} {Q : Exit → Act → World → Prop} {S : World → Prop} {fuel : Nat} {listed : Array Bool} {a : Act} {w : World} (i : Nat) (oi : Oper) (v : Value)
 (h : wpAnyH P md ops Q S fuel (listed.setIfInBounds i true) (a.put oi.dst v) w) (hi : ops[i]? = some oi := by rfl)
 (hs : Region.noSelect ops = true := by kernel_rfl) (hf : Region.free md ops listed i = true := by kernel_rfl) (hr : (Region.ready md ops listed).contains i = true := by kernel_rfl)
 (hQ : ∀ c a w, Q (.panic c) (a.put oi.dst v) w → Q (.panic c) a w := by exact fun _ _ _ h => h)
 (hy : YieldsIf P ops S oi v a := by exact Or.inl ⟨by rfl, by (intro wX hSw; (try dsimp only at hSw); go_simp; (try exact IntWalk.i64_in _ (by omega)))⟩) (hS : S w := by assumption) : wpAnyH P md ops Q S (fuel + 1) listed a w :=
 wpAnyH_take hi hs hf hr hQ hy hS h
theorem hidWNi {p : Prop} (h : p) : Hid p := h
theorem KernF.formR {F : Nat → Prop} {w : World} {y : Value} {R : Kn} (h : KernF F w y R) : ∃ ka kb kc kd ke kf kg kh ki kj kk kl km kn ko kp, y = .agg #[.int .i64 R.m.n, .int .i64 R.m.s, .slice ka R.m.i.length kb, .slice kc R.m.h.length kd, .slice ke R.m.e.length kf, .int .i64 R.m.z, .slice kg R.d.length kh, .slice ki R.p.length kj, .slice kk R.b.length kl, .int .i64 R.t, .int .i64 R.q, .bool R.f, .slice km R.s.length kn, .slice ko R.x.length kp] := by
 obtain ⟨_, _, _, _, _, _, vi, vh, vs, u6, u7, u8, u12, u13, rfl, hm, h6, h7, h8, h12, h13, _⟩ := h
 obtain ⟨b2, e2, b3, e3, b4, e4, he⟩ := hm.form
 obtain ⟨b6, e6, rfl, _⟩ := IsD.len h6.isD
 obtain ⟨b7, e7, rfl, _⟩ := IsD.len h7.isD
 obtain ⟨b8, e8, rfl, _⟩ := IsD.len h8.isD
 obtain ⟨b12, e12, rfl, _⟩ := IsD.len h12.isD
 obtain ⟨b13, e13, rfl, _⟩ := IsD.len h13.isD
 simp at he
 obtain ⟨rfl, rfl, rfl⟩ := he
 exact ⟨b2, e2, b3, e3, b4, e4, b6, e6, b7, e7, b8, e8, b12, e12, b13, e13, rfl⟩
theorem KernF.wider' {F F' : Nat → Prop} {w : World} {y : Value} {k : Kn} (h : KernF F w y k) (hF : ∀ j, F j → F' j) : KernF F' w y k := by
 obtain ⟨A0, A6, A7, A8, A12, A13, vi, vh, vs, u6, u7, u8, u12, u13, rfl, hm, h6, h7, h8, h12, h13, d0, d6, d7, d8, d12, d13⟩ := h
 exact ⟨A0, A6, A7, A8, A12, A13, vi, vh, vs, u6, u7, u8, u12, u13, rfl, hm, h6, h7, h8, h12, h13, fun j hj => ⟨hF j (d0 j hj).1, (d0 j hj).2⟩, fun j hj => ⟨hF j (d6 j hj).1, (d6 j hj).2⟩, fun j hj => ⟨hF j (d7 j hj).1, (d7 j hj).2⟩, fun j hj => ⟨hF j (d8 j hj).1, (d8 j hj).2⟩, fun j hj => ⟨hF j (d12 j hj).1, (d12 j hj).2⟩, fun j hj => hF j (d13 j hj)⟩
set_option maxRecDepth 100000 in
set_option maxHeartbeats 16000000 in
theorem iWorldNew (x : Value) (m : Md) (w : World) (hs : SmallM m) (h : IsM w x m) :
  Calls Tryz.prog 18 #[x] w fun e w' => ∃ y, e = .returned (.tuple #[y, .bool (wOk m)]) ∧ Below w.heap.size w w' ∧ WorF (fun j => w.heap.size ≤ j ∧ j < w'.heap.size) w' y (worldA m) := by
 have HM : Hid (IsM w x m) := h
 have HS : Hid (SmallM m) := hs
 obtain ⟨vi0, vh0, vs0, rfl, hI, hH, hE⟩ := h
 obtain ⟨ai, ci, rfl, _⟩ := hI
 obtain ⟨ah, ch, rfl, _⟩ := hH
 obtain ⟨ae, ce, rfl, _⟩ := hE
 clear hs
 obtain ⟨Rb, hRb⟩ : ∃ Rb, Rb = w.heap.size + 1 := ⟨_, rfl⟩
 obtain ⟨W0, hW0⟩ : ∃ W0, (w.alloc (.cells #[.int .i64 m.n, .int .i64 m.s, .slice ai m.i.length ci, .slice ah m.h.length ch, .slice ae m.e.length ce, .int .i64 m.z] 31)).alloc (.cells #[.int .i64 0, .int .i64 0, .slice none 0 0, .slice none 0 0, .slice none 0 0, .int .i64 0, .slice none 0 0, .slice none 0 0] 51) = W0 := ⟨_, rfl⟩
 have HP0 : Hid (Bk W0 w.heap.size 31 #[.int .i64 m.n, .int .i64 m.s, .slice ai m.i.length ci, .slice ah m.h.length ch, .slice ae m.e.length ce, .int .i64 m.z]) := hW0 ▸ (Bk.new w _ _).alloc _
 have HR0 : Hid (Bk W0 Rb 51 #[.int .i64 0, .int .i64 0, .slice none 0 0, .slice none 0 0, .slice none 0 0, .int .i64 0, .slice none 0 0, .slice none 0 0]) := by rw [← hW0]; exact Bk.newAt (by simp [hRb]) _ _
 have HB0 : Hid (Below w.heap.size w W0) := by rw [← hW0]; exact ((Below.refl _ w).alloc (Nat.le_refl _) _).alloc (by simp) _
 have HW0 := hidWNi hW0
 have HRB := hidWNi hRb
 have hRw : w.heap.size < Rb := by omega
 have hRl : Rb < W0.heap.size := HR0.out.lt
 obtain ⟨c0, c1, c2, c3, c4, c5⟩ := c6_6 ((Bk.new w 31 #[.int .i64 m.n, .int .i64 m.s, .slice ai m.i.length ci, .slice ah m.h.length ch, .slice ae m.e.length ce, .int .i64 m.z]).alloc (.cells #[.int .i64 0, .int .i64 0, .slice none 0 0, .slice none 0 0, .slice none 0 0, .int .i64 0, .slice none 0 0, .slice none 0 0] 51))
 clear hW0 hRb
 obtain ⟨R, hR⟩ : ∃ R, R = kernA m none4 := ⟨_, rfl⟩
 have HR : Hid (R = kernA m none4) := hR
 clear hR
 go_enter Tryz.func18, Tryz.ntmps18
 go_upto_region 1 with fail
 rw [HW0.out, ← HRB.out]
 clear HW0 c0 c1 c2 c3 c4 c5
 go_cut [4, 5] from 13 (fun s4 s5 wc => ∃ Kb ka kb kc kd ke kf kg kh ki kj kk kl km kn ko kp, s4 = .pointer (some ⟨Kb, 0, none⟩) ∧ s5 = .bool (wOk m) ∧ Below W0.heap.size W0 wc ∧ W0.heap.size ≤ Kb ∧ Bk wc Kb 36 #[.int .i64 R.m.n, .int .i64 R.m.s, .slice ka R.m.i.length kb, .slice kc R.m.h.length kd, .slice ke R.m.e.length kf, .int .i64 R.m.z, .slice kg R.d.length kh, .slice ki R.p.length kj, .slice kk R.b.length kl, .int .i64 R.t, .int .i64 R.q, .bool R.f, .slice km R.s.length kn, .slice ko R.x.length kp] ∧ KernF (fun j => (W0.heap.size ≤ j ∧ j < wc.heap.size) ∧ j ≠ Kb) wc (.agg #[.int .i64 R.m.n, .int .i64 R.m.s, .slice ka R.m.i.length kb, .slice kc R.m.h.length kd, .slice ke R.m.e.length kf, .int .i64 R.m.z, .slice kg R.d.length kh, .slice ki R.p.length kj, .slice kk R.b.length kl, .int .i64 R.t, .int .i64 R.q, .bool R.f, .slice km R.s.length kn, .slice ko R.x.length kp]) R)
 case first =>
  refine wp_region_held_drew (S := fun W => W.cell? ⟨w.heap.size, 0, none⟩ = some (.int .i64 m.n) ∧ W.cell? ⟨w.heap.size, 1, none⟩ = some (.int .i64 m.s) ∧ W.cell? ⟨w.heap.size, 2, none⟩ = some (.slice ai m.i.length ci) ∧ W.cell? ⟨w.heap.size, 3, none⟩ = some (.slice ah m.h.length ch) ∧ W.cell? ⟨w.heap.size, 4, none⟩ = some (.slice ae m.e.length ce) ∧ W.cell? ⟨w.heap.size, 5, none⟩ = some (.int .i64 m.z)) (by kernel_rfl) (c6_6 (HP0.out.below ((Below.refl W0.heap.size W0).drew))) (fun hHeld => ?_)
  obtain ⟨wd, hwd⟩ : ∃ wd, W0.drew = wd := ⟨_, rfl⟩
  have HBX : Hid (Below W0.heap.size W0 wd) := hwd ▸ (Below.refl W0.heap.size W0).drew
  rw [hwd] at hHeld
  rw [hwd]
  clear hwd
  refine thWNi 0 { dst := some 7, op := Op.load 31 (Operand.tmp 1), type := 31, pos := _, after := _, guard := none } (.agg #[.int .i64 m.n, .int .i64 m.s, .slice ai m.i.length ci, .slice ah m.h.length ch, .slice ae m.e.length ce, .int .i64 m.z]) ?_
  try simp only [Act.put, List.setIfInBounds_toArray, List.set_cons_zero, List.set_cons_succ]
  refine wpAnyH_ready (rs := [1, 7]) (by kernel_rfl) (by simp) ?_
  refine AllReadyH.cons rfl (fun K hK => ?_) (AllReadyH.cons rfl (fun K hK => ?_) AllReadyH.nil)
  ·go_simp
   refine (nothing_any wd).mono ?_
   rintro e v1 ⟨rfl, hb⟩
   have HB2 := hidWNi (HBX.out.trans (hb.mono HBX.out.size))
   clear hb
   clear HBX
   have HBX := HB2
   clear HB2
   try go_simp
   refine hK.out _ _ (c6_6 (HP0.out.below HBX.out)) (fun hHeld => ?_)
   clear hK K
   try simp only [Act.put, List.setIfInBounds_toArray, List.set_cons_zero, List.set_cons_succ]
   refine wpAnyH_ready (rs := [2, 7]) (by kernel_rfl) (by simp) ?_
   refine AllReadyH.cons rfl (fun K hK => ?_) (AllReadyH.cons rfl (fun K hK => ?_) AllReadyH.nil)
   ·go_simp
    refine (numbers_any (-1) (-1) (-1) (-1) v1).mono ?_
    rintro e v2 ⟨x9, rfl, ho, hb⟩
    have hi : IsI v2 x9 none4 := ho.isI
    obtain ⟨an, cn, rfl, _⟩ := id hi
    have HB2 := hidWNi (HBX.out.trans (hb.mono HBX.out.size))
    have HI := hidWNi hi
    clear hb ho hi
    clear HBX
    have HBX := HB2
    clear HB2
    try go_simp
    refine hK.out _ _ (c6_6 (HP0.out.below HBX.out)) (fun hHeld => ?_)
    clear hK K
    try simp only [Act.put, List.setIfInBounds_toArray, List.set_cons_zero, List.set_cons_succ]
    refine wpAnyH_ready (rs := [3, 7]) (by kernel_rfl) (by simp) ?_
    refine AllReadyH.cons rfl (fun K hK => ?_) (AllReadyH.cons rfl (fun K hK => ?_) AllReadyH.nil)
    ·go_simp
     have hi9 : IsI v2 (.slice an none4.length cn) none4 := HI.out
     refine (iKernelNew _ m an cn none4 v2 HS.out (by decide) (HM.out.below (HB0.out.trans (HBX.out.mono HB0.out.size))) hi9).mono ?_
     rintro e v3 ⟨y9, rfl, hb, hk⟩
     rw [← HR.out] at hk
     rw [kOk_none]
     obtain ⟨ka, kb, kc, kd, ke, kf, kg, kh, ki, kj, kk, kl, km, kn, ko, kp, rfl⟩ := hk.formR
     have HB2 := hidWNi (HBX.out.trans (hb.mono HBX.out.size))
     have HKN := hidWNi hk
     have HLW := hidWNi HBX.out.size
     clear hb hk hi9
     clear HBX
     have HBX := HB2
     clear HB2
     try go_simp
     refine hK.out _ _ (c6_6 (HP0.out.below HBX.out)) (fun hHeld => ?_)
     clear hK K
     try simp only [Act.put, List.setIfInBounds_toArray, List.set_cons_zero, List.set_cons_succ]
     refine thWNi 4 { dst := some 6, op := Op.move (Operand.tmp 10), type := 37, pos := _, after := _, guard := none } (.tuple #[.agg #[.int .i64 R.m.n, .int .i64 R.m.s, .slice ka R.m.i.length kb, .slice kc R.m.h.length kd, .slice ke R.m.e.length kf, .int .i64 R.m.z, .slice kg R.d.length kh, .slice ki R.p.length kj, .slice kk R.b.length kl, .int .i64 R.t, .int .i64 R.q, .bool R.f, .slice km R.s.length kn, .slice ko R.x.length kp], .bool (wOk m)]) ?_
     try simp only [Act.put, List.setIfInBounds_toArray, List.set_cons_zero, List.set_cons_succ]
     refine thWNi 5 { dst := some 11, op := Op.extract (Operand.tmp 6) 0, type := 36, pos := _, after := _, guard := none } (.agg #[.int .i64 R.m.n, .int .i64 R.m.s, .slice ka R.m.i.length kb, .slice kc R.m.h.length kd, .slice ke R.m.e.length kf, .int .i64 R.m.z, .slice kg R.d.length kh, .slice ki R.p.length kj, .slice kk R.b.length kl, .int .i64 R.t, .int .i64 R.q, .bool R.f, .slice km R.s.length kn, .slice ko R.x.length kp]) ?_
     try simp only [Act.put, List.setIfInBounds_toArray, List.set_cons_zero, List.set_cons_succ]
     refine thWNi 6 { dst := some 12, op := Op.extract (Operand.tmp 6) 1, type := 4, pos := _, after := _, guard := none } (.bool (wOk m)) ?_
     try simp only [Act.put, List.setIfInBounds_toArray, List.set_cons_zero, List.set_cons_succ]
     refine wpAnyH_ready (rs := [7]) (by kernel_rfl) (by simp) ?_
     refine AllReadyH.cons rfl (fun K hK => ?_) AllReadyH.nil
     obtain ⟨Kb, a3, HKx, HV, hb, hk⟩ := lay_any' v3 #[.int .i64 0, .int .i64 0, .slice none 0 0, .slice none 0 0, .slice none 0 0, .int .i64 0, .slice none 0 0, .slice none 0 0, .slice none 0 0, .int .i64 0, .int .i64 0, .bool false, .slice none 0 0, .slice none 0 0] 36
     have HKX : Hid (W0.heap.size ≤ Kb ∧ Bk a3 Kb 36 #[.int .i64 0, .int .i64 0, .slice none 0 0, .slice none 0 0, .slice none 0 0, .int .i64 0, .slice none 0 0, .slice none 0 0, .slice none 0 0, .int .i64 0, .int .i64 0, .bool false, .slice none 0 0, .slice none 0 0]) := ⟨HKx.out ▸ HBX.out.size, hk⟩
     have HB2 := hidWNi (HBX.out.trans (hb.mono HBX.out.size))
     have HKN2 := hidWNi (HKN.out.turns (S := fun _ => False) (Turns.of_below hb) (fun _ _ => id))
     have HKGE : Hid (v3.heap.size ≤ Kb) := HKx.out ▸ Nat.le_refl _
     have HVS := hidWNi hb.size
     clear HKN
     have HKN := HKN2
     clear HKN2
     clear hb hk
     clear HBX
     have HBX := HB2
     clear HB2
     go_simp
     rw [HV.out, ← HKx.out]
     clear HV HKx
     refine hK.out _ _ (c6_6 (HP0.out.below HBX.out)) (fun hHeld => ?_)
     clear hK K
     try simp only [Act.put, List.setIfInBounds_toArray, List.set_cons_zero, List.set_cons_succ]
     refine wpAnyH_ready (rs := [8]) (by kernel_rfl) (by simp) ?_
     refine AllReadyH.cons rfl (fun K hK => ?_) AllReadyH.nil
     obtain ⟨z0, z1, z2, z3, z4, z5, z6, z7, z8, z9, z10, z11, z12, z13⟩ := c14_14 HKX.out.2
     have zf := HKX.out.2.free
     obtain ⟨wf, hwf⟩ : ∃ X, put14 a3 Kb (.int .i64 R.m.n) (.int .i64 R.m.s) (.slice ka R.m.i.length kb) (.slice kc R.m.h.length kd) (.slice ke R.m.e.length kf) (.int .i64 R.m.z) (.slice kg R.d.length kh) (.slice ki R.p.length kj) (.slice kk R.b.length kl) (.int .i64 R.t) (.int .i64 R.q) (.bool R.f) (.slice km R.s.length kn) (.slice ko R.x.length kp) = X := ⟨_, rfl⟩
     have HTF : Hid (Turns (fun j => j = Kb) a3 wf) := hwf ▸ put14_turns _ _ _ _ _ _ _ _ _ _ _ _ _ _ _ _
     have HBk : Hid (Bk wf Kb 36 #[.int .i64 R.m.n, .int .i64 R.m.s, .slice ka R.m.i.length kb, .slice kc R.m.h.length kd, .slice ke R.m.e.length kf, .int .i64 R.m.z, .slice kg R.d.length kh, .slice ki R.p.length kj, .slice kk R.b.length kl, .int .i64 R.t, .int .i64 R.q, .bool R.f, .slice km R.s.length kn, .slice ko R.x.length kp]) := hwf ▸ HKX.out.2.put14 _ _ _ _ _ _ _ _ _ _ _ _ _ _
     have HBF := hidWNi (HBX.out.trans (HTF.out.to_below (fun j hj => by have h9 := HKX.out.1; omega) HBX.out.size))
     have HKO : Hid (KernF (fun j => (W0.heap.size ≤ j ∧ j < wf.heap.size) ∧ j ≠ Kb) wf (.agg #[.int .i64 R.m.n, .int .i64 R.m.s, .slice ka R.m.i.length kb, .slice kc R.m.h.length kd, .slice ke R.m.e.length kf, .int .i64 R.m.z, .slice kg R.d.length kh, .slice ki R.p.length kj, .slice kk R.b.length kl, .int .i64 R.t, .int .i64 R.q, .bool R.f, .slice km R.s.length kn, .slice ko R.x.length kp]) R) := (HKN.out.turns HTF.out (fun j hj e => by have h9 := HKGE.out; omega)).wider' (fun j hj => ⟨⟨by have h9 := HLW.out; omega, by have h8 := HVS.out; have h9 := HTF.out.size; omega⟩, fun e => by have h9 := HKGE.out; omega⟩)
     have hKW := HKX.out.1
     unfold put14 at hwf
     have HWF : Hid _ := hwf
     clear hwf
     go_simp
     rw [HWF.out]
     clear HWF zf HKX HKN z0 z1 z2 z3 z4 z5 z6 z7 z8 z9 z10 z11 z12 z13
     refine hK.out _ _ (c6_6 (HP0.out.below HBF.out)) (fun hHeld => ?_)
     clear hK K
     try simp only [Act.put, List.setIfInBounds_toArray, List.set_cons_zero, List.set_cons_succ]
     refine thWNi 9 { dst := some 5, op := Op.assign (Operand.tmp 12), type := 4, pos := _, after := _, guard := none } (.bool (wOk m)) ?_
     try simp only [Act.put, List.setIfInBounds_toArray, List.set_cons_zero, List.set_cons_succ]
     refine wpAnyH_done (by kernel_rfl) ?_ _
     try go_wp2_with fail
     go_meet
     case rel => exact ⟨Kb, ka, kb, kc, kd, ke, kf, kg, kh, ki, kj, kk, kl, km, kn, ko, kp, rfl, rfl, HBF.out, hKW, HBk.out, HKO.out⟩
    ·obtain ⟨Kb, a2, HKx, HV, hb, hk⟩ := lay_any' v2 #[.int .i64 0, .int .i64 0, .slice none 0 0, .slice none 0 0, .slice none 0 0, .int .i64 0, .slice none 0 0, .slice none 0 0, .slice none 0 0, .int .i64 0, .int .i64 0, .bool false, .slice none 0 0, .slice none 0 0] 36
     have HKX : Hid (W0.heap.size ≤ Kb ∧ Bk a2 Kb 36 #[.int .i64 0, .int .i64 0, .slice none 0 0, .slice none 0 0, .slice none 0 0, .int .i64 0, .slice none 0 0, .slice none 0 0, .slice none 0 0, .int .i64 0, .int .i64 0, .bool false, .slice none 0 0, .slice none 0 0]) := ⟨HKx.out ▸ HBX.out.size, hk⟩
     have HB2 := hidWNi (HBX.out.trans (hb.mono HBX.out.size))
     have HI2 := hidWNi (HI.out.below hb)
     clear HI
     have HI := HI2
     clear HI2
     clear hb hk
     clear HBX
     have HBX := HB2
     clear HB2
     go_simp
     rw [HV.out, ← HKx.out]
     clear HV HKx
     refine hK.out _ _ (c6_6 (HP0.out.below HBX.out)) (fun hHeld => ?_)
     clear hK K
     try simp only [Act.put, List.setIfInBounds_toArray, List.set_cons_zero, List.set_cons_succ]
     refine wpAnyH_ready (rs := [3]) (by kernel_rfl) (by simp) ?_
     refine AllReadyH.cons rfl (fun K hK => ?_) AllReadyH.nil
     go_simp
     have hi9 : IsI a2 (.slice an none4.length cn) none4 := HI.out
     refine (iKernelNew _ m an cn none4 a2 HS.out (by decide) (HM.out.below (HB0.out.trans (HBX.out.mono HB0.out.size))) hi9).mono ?_
     rintro e v3 ⟨y9, rfl, hb, hk⟩
     rw [← HR.out] at hk
     rw [kOk_none]
     obtain ⟨ka, kb, kc, kd, ke, kf, kg, kh, ki, kj, kk, kl, km, kn, ko, kp, rfl⟩ := hk.formR
     have HB2 := hidWNi (HBX.out.trans (hb.mono HBX.out.size))
     have HKN := hidWNi hk
     have HLW := hidWNi HBX.out.size
     have hKlt : Kb < a2.heap.size := HKX.out.2.lt
     have HKLT : Hid (Kb < a2.heap.size) := hKlt
     clear hKlt
     have HK2 : Hid (W0.heap.size ≤ Kb ∧ Bk v3 Kb 36 #[.int .i64 0, .int .i64 0, .slice none 0 0, .slice none 0 0, .slice none 0 0, .int .i64 0, .slice none 0 0, .slice none 0 0, .slice none 0 0, .int .i64 0, .int .i64 0, .bool false, .slice none 0 0, .slice none 0 0]) := ⟨HKX.out.1, HKX.out.2.below hb⟩
     clear HKX
     have HKX := HK2
     clear HK2
     clear hb hk hi9
     clear HBX
     have HBX := HB2
     clear HB2
     try go_simp
     refine hK.out _ _ (c6_6 (HP0.out.below HBX.out)) (fun hHeld => ?_)
     clear hK K
     try simp only [Act.put, List.setIfInBounds_toArray, List.set_cons_zero, List.set_cons_succ]
     refine thWNi 4 { dst := some 6, op := Op.move (Operand.tmp 10), type := 37, pos := _, after := _, guard := none } (.tuple #[.agg #[.int .i64 R.m.n, .int .i64 R.m.s, .slice ka R.m.i.length kb, .slice kc R.m.h.length kd, .slice ke R.m.e.length kf, .int .i64 R.m.z, .slice kg R.d.length kh, .slice ki R.p.length kj, .slice kk R.b.length kl, .int .i64 R.t, .int .i64 R.q, .bool R.f, .slice km R.s.length kn, .slice ko R.x.length kp], .bool (wOk m)]) ?_
     try simp only [Act.put, List.setIfInBounds_toArray, List.set_cons_zero, List.set_cons_succ]
     refine thWNi 5 { dst := some 11, op := Op.extract (Operand.tmp 6) 0, type := 36, pos := _, after := _, guard := none } (.agg #[.int .i64 R.m.n, .int .i64 R.m.s, .slice ka R.m.i.length kb, .slice kc R.m.h.length kd, .slice ke R.m.e.length kf, .int .i64 R.m.z, .slice kg R.d.length kh, .slice ki R.p.length kj, .slice kk R.b.length kl, .int .i64 R.t, .int .i64 R.q, .bool R.f, .slice km R.s.length kn, .slice ko R.x.length kp]) ?_
     try simp only [Act.put, List.setIfInBounds_toArray, List.set_cons_zero, List.set_cons_succ]
     refine thWNi 6 { dst := some 12, op := Op.extract (Operand.tmp 6) 1, type := 4, pos := _, after := _, guard := none } (.bool (wOk m)) ?_
     try simp only [Act.put, List.setIfInBounds_toArray, List.set_cons_zero, List.set_cons_succ]
     refine wpAnyH_ready (rs := [8]) (by kernel_rfl) (by simp) ?_
     refine AllReadyH.cons rfl (fun K hK => ?_) AllReadyH.nil
     obtain ⟨z0, z1, z2, z3, z4, z5, z6, z7, z8, z9, z10, z11, z12, z13⟩ := c14_14 HKX.out.2
     have zf := HKX.out.2.free
     obtain ⟨wf, hwf⟩ : ∃ X, put14 v3 Kb (.int .i64 R.m.n) (.int .i64 R.m.s) (.slice ka R.m.i.length kb) (.slice kc R.m.h.length kd) (.slice ke R.m.e.length kf) (.int .i64 R.m.z) (.slice kg R.d.length kh) (.slice ki R.p.length kj) (.slice kk R.b.length kl) (.int .i64 R.t) (.int .i64 R.q) (.bool R.f) (.slice km R.s.length kn) (.slice ko R.x.length kp) = X := ⟨_, rfl⟩
     have HTF : Hid (Turns (fun j => j = Kb) v3 wf) := hwf ▸ put14_turns _ _ _ _ _ _ _ _ _ _ _ _ _ _ _ _
     have HBk : Hid (Bk wf Kb 36 #[.int .i64 R.m.n, .int .i64 R.m.s, .slice ka R.m.i.length kb, .slice kc R.m.h.length kd, .slice ke R.m.e.length kf, .int .i64 R.m.z, .slice kg R.d.length kh, .slice ki R.p.length kj, .slice kk R.b.length kl, .int .i64 R.t, .int .i64 R.q, .bool R.f, .slice km R.s.length kn, .slice ko R.x.length kp]) := hwf ▸ HKX.out.2.put14 _ _ _ _ _ _ _ _ _ _ _ _ _ _
     have HBF := hidWNi (HBX.out.trans (HTF.out.to_below (fun j hj => by have h9 := HKX.out.1; omega) HBX.out.size))
     have HKO : Hid (KernF (fun j => (W0.heap.size ≤ j ∧ j < wf.heap.size) ∧ j ≠ Kb) wf (.agg #[.int .i64 R.m.n, .int .i64 R.m.s, .slice ka R.m.i.length kb, .slice kc R.m.h.length kd, .slice ke R.m.e.length kf, .int .i64 R.m.z, .slice kg R.d.length kh, .slice ki R.p.length kj, .slice kk R.b.length kl, .int .i64 R.t, .int .i64 R.q, .bool R.f, .slice km R.s.length kn, .slice ko R.x.length kp]) R) := (HKN.out.turns HTF.out (fun j hj e => by have h9 := HKLT.out; omega)).wider' (fun j hj => ⟨⟨by have h9 := HLW.out; omega, by have h9 := HTF.out.size; omega⟩, fun e => by have h9 := HKLT.out; omega⟩)
     have hKW := HKX.out.1
     unfold put14 at hwf
     have HWF : Hid _ := hwf
     clear hwf
     go_simp
     rw [HWF.out]
     clear HWF zf HKX HKN z0 z1 z2 z3 z4 z5 z6 z7 z8 z9 z10 z11 z12 z13
     refine hK.out _ _ (c6_6 (HP0.out.below HBF.out)) (fun hHeld => ?_)
     clear hK K
     try simp only [Act.put, List.setIfInBounds_toArray, List.set_cons_zero, List.set_cons_succ]
     refine thWNi 9 { dst := some 5, op := Op.assign (Operand.tmp 12), type := 4, pos := _, after := _, guard := none } (.bool (wOk m)) ?_
     try simp only [Act.put, List.setIfInBounds_toArray, List.set_cons_zero, List.set_cons_succ]
     refine wpAnyH_done (by kernel_rfl) ?_ _
     try go_wp2_with fail
     go_meet
     case rel => exact ⟨Kb, ka, kb, kc, kd, ke, kf, kg, kh, ki, kj, kk, kl, km, kn, ko, kp, rfl, rfl, HBF.out, hKW, HBk.out, HKO.out⟩
   ·obtain ⟨Kb, a1, HKx, HV, hb, hk⟩ := lay_any' v1 #[.int .i64 0, .int .i64 0, .slice none 0 0, .slice none 0 0, .slice none 0 0, .int .i64 0, .slice none 0 0, .slice none 0 0, .slice none 0 0, .int .i64 0, .int .i64 0, .bool false, .slice none 0 0, .slice none 0 0] 36
    have HKX : Hid (W0.heap.size ≤ Kb ∧ Bk a1 Kb 36 #[.int .i64 0, .int .i64 0, .slice none 0 0, .slice none 0 0, .slice none 0 0, .int .i64 0, .slice none 0 0, .slice none 0 0, .slice none 0 0, .int .i64 0, .int .i64 0, .bool false, .slice none 0 0, .slice none 0 0]) := ⟨HKx.out ▸ HBX.out.size, hk⟩
    have HB2 := hidWNi (HBX.out.trans (hb.mono HBX.out.size))
    clear hb hk
    clear HBX
    have HBX := HB2
    clear HB2
    go_simp
    rw [HV.out, ← HKx.out]
    clear HV HKx
    refine hK.out _ _ (c6_6 (HP0.out.below HBX.out)) (fun hHeld => ?_)
    clear hK K
    try simp only [Act.put, List.setIfInBounds_toArray, List.set_cons_zero, List.set_cons_succ]
    refine wpAnyH_ready (rs := [2]) (by kernel_rfl) (by simp) ?_
    refine AllReadyH.cons rfl (fun K hK => ?_) AllReadyH.nil
    go_simp
    refine (numbers_any (-1) (-1) (-1) (-1) a1).mono ?_
    rintro e v2 ⟨x9, rfl, ho, hb⟩
    have hi : IsI v2 x9 none4 := ho.isI
    obtain ⟨an, cn, rfl, _⟩ := id hi
    have HB2 := hidWNi (HBX.out.trans (hb.mono HBX.out.size))
    have HI := hidWNi hi
    have HK2 : Hid (W0.heap.size ≤ Kb ∧ Bk v2 Kb 36 #[.int .i64 0, .int .i64 0, .slice none 0 0, .slice none 0 0, .slice none 0 0, .int .i64 0, .slice none 0 0, .slice none 0 0, .slice none 0 0, .int .i64 0, .int .i64 0, .bool false, .slice none 0 0, .slice none 0 0]) := ⟨HKX.out.1, HKX.out.2.below hb⟩
    clear HKX
    have HKX := HK2
    clear HK2
    clear hb ho hi
    clear HBX
    have HBX := HB2
    clear HB2
    try go_simp
    refine hK.out _ _ (c6_6 (HP0.out.below HBX.out)) (fun hHeld => ?_)
    clear hK K
    try simp only [Act.put, List.setIfInBounds_toArray, List.set_cons_zero, List.set_cons_succ]
    refine wpAnyH_ready (rs := [3]) (by kernel_rfl) (by simp) ?_
    refine AllReadyH.cons rfl (fun K hK => ?_) AllReadyH.nil
    go_simp
    have hi9 : IsI v2 (.slice an none4.length cn) none4 := HI.out
    refine (iKernelNew _ m an cn none4 v2 HS.out (by decide) (HM.out.below (HB0.out.trans (HBX.out.mono HB0.out.size))) hi9).mono ?_
    rintro e v3 ⟨y9, rfl, hb, hk⟩
    rw [← HR.out] at hk
    rw [kOk_none]
    obtain ⟨ka, kb, kc, kd, ke, kf, kg, kh, ki, kj, kk, kl, km, kn, ko, kp, rfl⟩ := hk.formR
    have HB2 := hidWNi (HBX.out.trans (hb.mono HBX.out.size))
    have HKN := hidWNi hk
    have HLW := hidWNi HBX.out.size
    have hKlt : Kb < v2.heap.size := HKX.out.2.lt
    have HKLT : Hid (Kb < v2.heap.size) := hKlt
    clear hKlt
    have HK2 : Hid (W0.heap.size ≤ Kb ∧ Bk v3 Kb 36 #[.int .i64 0, .int .i64 0, .slice none 0 0, .slice none 0 0, .slice none 0 0, .int .i64 0, .slice none 0 0, .slice none 0 0, .slice none 0 0, .int .i64 0, .int .i64 0, .bool false, .slice none 0 0, .slice none 0 0]) := ⟨HKX.out.1, HKX.out.2.below hb⟩
    clear HKX
    have HKX := HK2
    clear HK2
    clear hb hk hi9
    clear HBX
    have HBX := HB2
    clear HB2
    try go_simp
    refine hK.out _ _ (c6_6 (HP0.out.below HBX.out)) (fun hHeld => ?_)
    clear hK K
    try simp only [Act.put, List.setIfInBounds_toArray, List.set_cons_zero, List.set_cons_succ]
    refine thWNi 4 { dst := some 6, op := Op.move (Operand.tmp 10), type := 37, pos := _, after := _, guard := none } (.tuple #[.agg #[.int .i64 R.m.n, .int .i64 R.m.s, .slice ka R.m.i.length kb, .slice kc R.m.h.length kd, .slice ke R.m.e.length kf, .int .i64 R.m.z, .slice kg R.d.length kh, .slice ki R.p.length kj, .slice kk R.b.length kl, .int .i64 R.t, .int .i64 R.q, .bool R.f, .slice km R.s.length kn, .slice ko R.x.length kp], .bool (wOk m)]) ?_
    try simp only [Act.put, List.setIfInBounds_toArray, List.set_cons_zero, List.set_cons_succ]
    refine thWNi 5 { dst := some 11, op := Op.extract (Operand.tmp 6) 0, type := 36, pos := _, after := _, guard := none } (.agg #[.int .i64 R.m.n, .int .i64 R.m.s, .slice ka R.m.i.length kb, .slice kc R.m.h.length kd, .slice ke R.m.e.length kf, .int .i64 R.m.z, .slice kg R.d.length kh, .slice ki R.p.length kj, .slice kk R.b.length kl, .int .i64 R.t, .int .i64 R.q, .bool R.f, .slice km R.s.length kn, .slice ko R.x.length kp]) ?_
    try simp only [Act.put, List.setIfInBounds_toArray, List.set_cons_zero, List.set_cons_succ]
    refine thWNi 6 { dst := some 12, op := Op.extract (Operand.tmp 6) 1, type := 4, pos := _, after := _, guard := none } (.bool (wOk m)) ?_
    try simp only [Act.put, List.setIfInBounds_toArray, List.set_cons_zero, List.set_cons_succ]
    refine wpAnyH_ready (rs := [8]) (by kernel_rfl) (by simp) ?_
    refine AllReadyH.cons rfl (fun K hK => ?_) AllReadyH.nil
    obtain ⟨z0, z1, z2, z3, z4, z5, z6, z7, z8, z9, z10, z11, z12, z13⟩ := c14_14 HKX.out.2
    have zf := HKX.out.2.free
    obtain ⟨wf, hwf⟩ : ∃ X, put14 v3 Kb (.int .i64 R.m.n) (.int .i64 R.m.s) (.slice ka R.m.i.length kb) (.slice kc R.m.h.length kd) (.slice ke R.m.e.length kf) (.int .i64 R.m.z) (.slice kg R.d.length kh) (.slice ki R.p.length kj) (.slice kk R.b.length kl) (.int .i64 R.t) (.int .i64 R.q) (.bool R.f) (.slice km R.s.length kn) (.slice ko R.x.length kp) = X := ⟨_, rfl⟩
    have HTF : Hid (Turns (fun j => j = Kb) v3 wf) := hwf ▸ put14_turns _ _ _ _ _ _ _ _ _ _ _ _ _ _ _ _
    have HBk : Hid (Bk wf Kb 36 #[.int .i64 R.m.n, .int .i64 R.m.s, .slice ka R.m.i.length kb, .slice kc R.m.h.length kd, .slice ke R.m.e.length kf, .int .i64 R.m.z, .slice kg R.d.length kh, .slice ki R.p.length kj, .slice kk R.b.length kl, .int .i64 R.t, .int .i64 R.q, .bool R.f, .slice km R.s.length kn, .slice ko R.x.length kp]) := hwf ▸ HKX.out.2.put14 _ _ _ _ _ _ _ _ _ _ _ _ _ _
    have HBF := hidWNi (HBX.out.trans (HTF.out.to_below (fun j hj => by have h9 := HKX.out.1; omega) HBX.out.size))
    have HKO : Hid (KernF (fun j => (W0.heap.size ≤ j ∧ j < wf.heap.size) ∧ j ≠ Kb) wf (.agg #[.int .i64 R.m.n, .int .i64 R.m.s, .slice ka R.m.i.length kb, .slice kc R.m.h.length kd, .slice ke R.m.e.length kf, .int .i64 R.m.z, .slice kg R.d.length kh, .slice ki R.p.length kj, .slice kk R.b.length kl, .int .i64 R.t, .int .i64 R.q, .bool R.f, .slice km R.s.length kn, .slice ko R.x.length kp]) R) := (HKN.out.turns HTF.out (fun j hj e => by have h9 := HKLT.out; omega)).wider' (fun j hj => ⟨⟨by have h9 := HLW.out; omega, by have h9 := HTF.out.size; omega⟩, fun e => by have h9 := HKLT.out; omega⟩)
    have hKW := HKX.out.1
    unfold put14 at hwf
    have HWF : Hid _ := hwf
    clear hwf
    go_simp
    rw [HWF.out]
    clear HWF zf HKX HKN z0 z1 z2 z3 z4 z5 z6 z7 z8 z9 z10 z11 z12 z13
    refine hK.out _ _ (c6_6 (HP0.out.below HBF.out)) (fun hHeld => ?_)
    clear hK K
    try simp only [Act.put, List.setIfInBounds_toArray, List.set_cons_zero, List.set_cons_succ]
    refine thWNi 9 { dst := some 5, op := Op.assign (Operand.tmp 12), type := 4, pos := _, after := _, guard := none } (.bool (wOk m)) ?_
    try simp only [Act.put, List.setIfInBounds_toArray, List.set_cons_zero, List.set_cons_succ]
    refine wpAnyH_done (by kernel_rfl) ?_ _
    try go_wp2_with fail
    go_meet
    case rel => exact ⟨Kb, ka, kb, kc, kd, ke, kf, kg, kh, ki, kj, kk, kl, km, kn, ko, kp, rfl, rfl, HBF.out, hKW, HBk.out, HKO.out⟩
  ·obtain ⟨Kb, a0, HKx, HV, hb, hk⟩ := lay_any' wd #[.int .i64 0, .int .i64 0, .slice none 0 0, .slice none 0 0, .slice none 0 0, .int .i64 0, .slice none 0 0, .slice none 0 0, .slice none 0 0, .int .i64 0, .int .i64 0, .bool false, .slice none 0 0, .slice none 0 0] 36
   have HKX : Hid (W0.heap.size ≤ Kb ∧ Bk a0 Kb 36 #[.int .i64 0, .int .i64 0, .slice none 0 0, .slice none 0 0, .slice none 0 0, .int .i64 0, .slice none 0 0, .slice none 0 0, .slice none 0 0, .int .i64 0, .int .i64 0, .bool false, .slice none 0 0, .slice none 0 0]) := ⟨HKx.out ▸ HBX.out.size, hk⟩
   have HB2 := hidWNi (HBX.out.trans (hb.mono HBX.out.size))
   clear hb hk
   clear HBX
   have HBX := HB2
   clear HB2
   go_simp
   rw [HV.out, ← HKx.out]
   clear HV HKx
   refine hK.out _ _ (c6_6 (HP0.out.below HBX.out)) (fun hHeld => ?_)
   clear hK K
   try simp only [Act.put, List.setIfInBounds_toArray, List.set_cons_zero, List.set_cons_succ]
   refine wpAnyH_ready (rs := [1]) (by kernel_rfl) (by simp) ?_
   refine AllReadyH.cons rfl (fun K hK => ?_) AllReadyH.nil
   go_simp
   refine (nothing_any a0).mono ?_
   rintro e v1 ⟨rfl, hb⟩
   have HB2 := hidWNi (HBX.out.trans (hb.mono HBX.out.size))
   have HK2 : Hid (W0.heap.size ≤ Kb ∧ Bk v1 Kb 36 #[.int .i64 0, .int .i64 0, .slice none 0 0, .slice none 0 0, .slice none 0 0, .int .i64 0, .slice none 0 0, .slice none 0 0, .slice none 0 0, .int .i64 0, .int .i64 0, .bool false, .slice none 0 0, .slice none 0 0]) := ⟨HKX.out.1, HKX.out.2.below hb⟩
   clear HKX
   have HKX := HK2
   clear HK2
   clear hb
   clear HBX
   have HBX := HB2
   clear HB2
   try go_simp
   refine hK.out _ _ (c6_6 (HP0.out.below HBX.out)) (fun hHeld => ?_)
   clear hK K
   try simp only [Act.put, List.setIfInBounds_toArray, List.set_cons_zero, List.set_cons_succ]
   refine wpAnyH_ready (rs := [2]) (by kernel_rfl) (by simp) ?_
   refine AllReadyH.cons rfl (fun K hK => ?_) AllReadyH.nil
   go_simp
   refine (numbers_any (-1) (-1) (-1) (-1) v1).mono ?_
   rintro e v2 ⟨x9, rfl, ho, hb⟩
   have hi : IsI v2 x9 none4 := ho.isI
   obtain ⟨an, cn, rfl, _⟩ := id hi
   have HB2 := hidWNi (HBX.out.trans (hb.mono HBX.out.size))
   have HI := hidWNi hi
   have HK2 : Hid (W0.heap.size ≤ Kb ∧ Bk v2 Kb 36 #[.int .i64 0, .int .i64 0, .slice none 0 0, .slice none 0 0, .slice none 0 0, .int .i64 0, .slice none 0 0, .slice none 0 0, .slice none 0 0, .int .i64 0, .int .i64 0, .bool false, .slice none 0 0, .slice none 0 0]) := ⟨HKX.out.1, HKX.out.2.below hb⟩
   clear HKX
   have HKX := HK2
   clear HK2
   clear hb ho hi
   clear HBX
   have HBX := HB2
   clear HB2
   try go_simp
   refine hK.out _ _ (c6_6 (HP0.out.below HBX.out)) (fun hHeld => ?_)
   clear hK K
   try simp only [Act.put, List.setIfInBounds_toArray, List.set_cons_zero, List.set_cons_succ]
   refine wpAnyH_ready (rs := [3]) (by kernel_rfl) (by simp) ?_
   refine AllReadyH.cons rfl (fun K hK => ?_) AllReadyH.nil
   go_simp
   have hi9 : IsI v2 (.slice an none4.length cn) none4 := HI.out
   refine (iKernelNew _ m an cn none4 v2 HS.out (by decide) (HM.out.below (HB0.out.trans (HBX.out.mono HB0.out.size))) hi9).mono ?_
   rintro e v3 ⟨y9, rfl, hb, hk⟩
   rw [← HR.out] at hk
   rw [kOk_none]
   obtain ⟨ka, kb, kc, kd, ke, kf, kg, kh, ki, kj, kk, kl, km, kn, ko, kp, rfl⟩ := hk.formR
   have HB2 := hidWNi (HBX.out.trans (hb.mono HBX.out.size))
   have HKN := hidWNi hk
   have HLW := hidWNi HBX.out.size
   have hKlt : Kb < v2.heap.size := HKX.out.2.lt
   have HKLT : Hid (Kb < v2.heap.size) := hKlt
   clear hKlt
   have HK2 : Hid (W0.heap.size ≤ Kb ∧ Bk v3 Kb 36 #[.int .i64 0, .int .i64 0, .slice none 0 0, .slice none 0 0, .slice none 0 0, .int .i64 0, .slice none 0 0, .slice none 0 0, .slice none 0 0, .int .i64 0, .int .i64 0, .bool false, .slice none 0 0, .slice none 0 0]) := ⟨HKX.out.1, HKX.out.2.below hb⟩
   clear HKX
   have HKX := HK2
   clear HK2
   clear hb hk hi9
   clear HBX
   have HBX := HB2
   clear HB2
   try go_simp
   refine hK.out _ _ (c6_6 (HP0.out.below HBX.out)) (fun hHeld => ?_)
   clear hK K
   try simp only [Act.put, List.setIfInBounds_toArray, List.set_cons_zero, List.set_cons_succ]
   refine thWNi 4 { dst := some 6, op := Op.move (Operand.tmp 10), type := 37, pos := _, after := _, guard := none } (.tuple #[.agg #[.int .i64 R.m.n, .int .i64 R.m.s, .slice ka R.m.i.length kb, .slice kc R.m.h.length kd, .slice ke R.m.e.length kf, .int .i64 R.m.z, .slice kg R.d.length kh, .slice ki R.p.length kj, .slice kk R.b.length kl, .int .i64 R.t, .int .i64 R.q, .bool R.f, .slice km R.s.length kn, .slice ko R.x.length kp], .bool (wOk m)]) ?_
   try simp only [Act.put, List.setIfInBounds_toArray, List.set_cons_zero, List.set_cons_succ]
   refine thWNi 5 { dst := some 11, op := Op.extract (Operand.tmp 6) 0, type := 36, pos := _, after := _, guard := none } (.agg #[.int .i64 R.m.n, .int .i64 R.m.s, .slice ka R.m.i.length kb, .slice kc R.m.h.length kd, .slice ke R.m.e.length kf, .int .i64 R.m.z, .slice kg R.d.length kh, .slice ki R.p.length kj, .slice kk R.b.length kl, .int .i64 R.t, .int .i64 R.q, .bool R.f, .slice km R.s.length kn, .slice ko R.x.length kp]) ?_
   try simp only [Act.put, List.setIfInBounds_toArray, List.set_cons_zero, List.set_cons_succ]
   refine thWNi 6 { dst := some 12, op := Op.extract (Operand.tmp 6) 1, type := 4, pos := _, after := _, guard := none } (.bool (wOk m)) ?_
   try simp only [Act.put, List.setIfInBounds_toArray, List.set_cons_zero, List.set_cons_succ]
   refine wpAnyH_ready (rs := [8]) (by kernel_rfl) (by simp) ?_
   refine AllReadyH.cons rfl (fun K hK => ?_) AllReadyH.nil
   obtain ⟨z0, z1, z2, z3, z4, z5, z6, z7, z8, z9, z10, z11, z12, z13⟩ := c14_14 HKX.out.2
   have zf := HKX.out.2.free
   obtain ⟨wf, hwf⟩ : ∃ X, put14 v3 Kb (.int .i64 R.m.n) (.int .i64 R.m.s) (.slice ka R.m.i.length kb) (.slice kc R.m.h.length kd) (.slice ke R.m.e.length kf) (.int .i64 R.m.z) (.slice kg R.d.length kh) (.slice ki R.p.length kj) (.slice kk R.b.length kl) (.int .i64 R.t) (.int .i64 R.q) (.bool R.f) (.slice km R.s.length kn) (.slice ko R.x.length kp) = X := ⟨_, rfl⟩
   have HTF : Hid (Turns (fun j => j = Kb) v3 wf) := hwf ▸ put14_turns _ _ _ _ _ _ _ _ _ _ _ _ _ _ _ _
   have HBk : Hid (Bk wf Kb 36 #[.int .i64 R.m.n, .int .i64 R.m.s, .slice ka R.m.i.length kb, .slice kc R.m.h.length kd, .slice ke R.m.e.length kf, .int .i64 R.m.z, .slice kg R.d.length kh, .slice ki R.p.length kj, .slice kk R.b.length kl, .int .i64 R.t, .int .i64 R.q, .bool R.f, .slice km R.s.length kn, .slice ko R.x.length kp]) := hwf ▸ HKX.out.2.put14 _ _ _ _ _ _ _ _ _ _ _ _ _ _
   have HBF := hidWNi (HBX.out.trans (HTF.out.to_below (fun j hj => by have h9 := HKX.out.1; omega) HBX.out.size))
   have HKO : Hid (KernF (fun j => (W0.heap.size ≤ j ∧ j < wf.heap.size) ∧ j ≠ Kb) wf (.agg #[.int .i64 R.m.n, .int .i64 R.m.s, .slice ka R.m.i.length kb, .slice kc R.m.h.length kd, .slice ke R.m.e.length kf, .int .i64 R.m.z, .slice kg R.d.length kh, .slice ki R.p.length kj, .slice kk R.b.length kl, .int .i64 R.t, .int .i64 R.q, .bool R.f, .slice km R.s.length kn, .slice ko R.x.length kp]) R) := (HKN.out.turns HTF.out (fun j hj e => by have h9 := HKLT.out; omega)).wider' (fun j hj => ⟨⟨by have h9 := HLW.out; omega, by have h9 := HTF.out.size; omega⟩, fun e => by have h9 := HKLT.out; omega⟩)
   have hKW := HKX.out.1
   unfold put14 at hwf
   have HWF : Hid _ := hwf
   clear hwf
   go_simp
   rw [HWF.out]
   clear HWF zf HKX HKN z0 z1 z2 z3 z4 z5 z6 z7 z8 z9 z10 z11 z12 z13
   refine hK.out _ _ (c6_6 (HP0.out.below HBF.out)) (fun hHeld => ?_)
   clear hK K
   try simp only [Act.put, List.setIfInBounds_toArray, List.set_cons_zero, List.set_cons_succ]
   refine thWNi 9 { dst := some 5, op := Op.assign (Operand.tmp 12), type := 4, pos := _, after := _, guard := none } (.bool (wOk m)) ?_
   try simp only [Act.put, List.setIfInBounds_toArray, List.set_cons_zero, List.set_cons_succ]
   refine wpAnyH_done (by kernel_rfl) ?_ _
   try go_wp2_with fail
   go_meet
   case rel => exact ⟨Kb, ka, kb, kc, kd, ke, kf, kg, kh, ki, kj, kk, kl, km, kn, ko, kp, rfl, rfl, HBF.out, hKW, HBk.out, HKO.out⟩
 case rest =>
  rename World => w1
  obtain ⟨Kb, ka, kb, kc, kd, ke, kf, kg, kh, ki, kj, kk, kl, km, kn, ko, kp, rfl, rfl, hb, hKW, hBk, hKO⟩ := hcut
  have HB1 := hidWNi hb
  have HBk := hidWNi hBk
  have HKO : Hid (KernF (fun j => (W0.heap.size ≤ j ∧ j < w1.heap.size) ∧ j ≠ Kb) w1 (.agg #[.int .i64 R.m.n, .int .i64 R.m.s, .slice ka R.m.i.length kb, .slice kc R.m.h.length kd, .slice ke R.m.e.length kf, .int .i64 R.m.z, .slice kg R.d.length kh, .slice ki R.p.length kj, .slice kk R.b.length kl, .int .i64 R.t, .int .i64 R.q, .bool R.f, .slice km R.s.length kn, .slice ko R.x.length kp]) R) := hKO
  clear hb hBk hKO
  cases hok : wOk m
  case false =>
   have HNO : Hid (wOk m = false) := hok
   clear hok
   obtain ⟨r0, r1, r2, r3, r4, r5, r6, r7⟩ := c8_8 (HR0.out.below HB1.out)
   have rf := (HR0.out.below HB1.out).free
   obtain ⟨wf, hwf⟩ : ∃ X, put8w w1 Rb (.int .i64 0) (.int .i64 0) (.slice none 0 0) (.slice none 0 0) (.slice none 0 0) (.int .i64 0) (.slice none 0 0) (.slice none 0 0) = X := ⟨_, rfl⟩
   have HTF : Hid (Turns (fun j => j = Rb) w1 wf) := hwf ▸ put8w_turns _ _ _ _ _ _ _ _ _ _
   have HRF : Hid (Bk wf Rb 51 #[.int .i64 0, .int .i64 0, .slice none 0 0, .slice none 0 0, .slice none 0 0, .int .i64 0, .slice none 0 0, .slice none 0 0]) := hwf ▸ (HR0.out.below HB1.out).put8w _ _ _ _ _ _ _ _
   have HBF := hidWNi ((HB0.out.trans ((HB1.out).mono HB0.out.size)).trans (HTF.out.to_below (fun j hj => by omega) (HB0.out.trans ((HB1.out).mono HB0.out.size)).size))
   obtain ⟨t0, t1, t2, t3, t4, t5, t6, t7⟩ := c8_8 HRF.out
   unfold put8w at hwf
   go_wp2
   refine bodyPost_ret (v := .tuple #[.agg #[.int .i64 0, .int .i64 0, .slice none 0 0, .slice none 0 0, .slice none 0 0, .int .i64 0, .slice none 0 0, .slice none 0 0], .bool false]) (by simp [results, Tryz.results18, go_sem, t0, t1, t2, t3, t4, t5, t6, t7]) rfl ⟨_, by rw [HNO.out], HBF.out, ?_⟩
   rw [world_no HNO.out]
   exact wd0_own _ _
  have HYE : Hid (wOk m = true) := hok
  have HOK : Hid (m.ok = true) := (by unfold wOk at hok; exact hok : m.ok = true)
  clear hok
  go_wp2_with fail
  refine wp_region_held_drew (S := fun W => W.cell? ⟨w.heap.size, 0, none⟩ = some (.int .i64 m.n) ∧ W.cell? ⟨w.heap.size, 1, none⟩ = some (.int .i64 m.s) ∧ W.cell? ⟨w.heap.size, 2, none⟩ = some (.slice ai m.i.length ci) ∧ W.cell? ⟨w.heap.size, 3, none⟩ = some (.slice ah m.h.length ch) ∧ W.cell? ⟨w.heap.size, 4, none⟩ = some (.slice ae m.e.length ce) ∧ W.cell? ⟨w.heap.size, 5, none⟩ = some (.int .i64 m.z) ∧ W.cell? ⟨Kb, 0, none⟩ = some (.int .i64 R.m.n) ∧ W.cell? ⟨Kb, 1, none⟩ = some (.int .i64 R.m.s) ∧ W.cell? ⟨Kb, 2, none⟩ = some (.slice ka R.m.i.length kb) ∧ W.cell? ⟨Kb, 3, none⟩ = some (.slice kc R.m.h.length kd) ∧ W.cell? ⟨Kb, 4, none⟩ = some (.slice ke R.m.e.length kf) ∧ W.cell? ⟨Kb, 5, none⟩ = some (.int .i64 R.m.z) ∧ W.cell? ⟨Kb, 6, none⟩ = some (.slice kg R.d.length kh) ∧ W.cell? ⟨Kb, 7, none⟩ = some (.slice ki R.p.length kj) ∧ W.cell? ⟨Kb, 8, none⟩ = some (.slice kk R.b.length kl) ∧ W.cell? ⟨Kb, 9, none⟩ = some (.int .i64 R.t) ∧ W.cell? ⟨Kb, 10, none⟩ = some (.int .i64 R.q) ∧ W.cell? ⟨Kb, 11, none⟩ = some (.bool R.f) ∧ W.cell? ⟨Kb, 12, none⟩ = some (.slice km R.s.length kn) ∧ W.cell? ⟨Kb, 13, none⟩ = some (.slice ko R.x.length kp)) (by kernel_rfl) ⟨(HP0.out.below HB1.out.drew).cell (i := 0) rfl, (HP0.out.below HB1.out.drew).cell (i := 1) rfl, (HP0.out.below HB1.out.drew).cell (i := 2) rfl, (HP0.out.below HB1.out.drew).cell (i := 3) rfl, (HP0.out.below HB1.out.drew).cell (i := 4) rfl, (HP0.out.below HB1.out.drew).cell (i := 5) rfl, HBk.out.drew.cell (i := 0) rfl, HBk.out.drew.cell (i := 1) rfl, HBk.out.drew.cell (i := 2) rfl, HBk.out.drew.cell (i := 3) rfl, HBk.out.drew.cell (i := 4) rfl, HBk.out.drew.cell (i := 5) rfl, HBk.out.drew.cell (i := 6) rfl, HBk.out.drew.cell (i := 7) rfl, HBk.out.drew.cell (i := 8) rfl, HBk.out.drew.cell (i := 9) rfl, HBk.out.drew.cell (i := 10) rfl, HBk.out.drew.cell (i := 11) rfl, HBk.out.drew.cell (i := 12) rfl, HBk.out.drew.cell (i := 13) rfl⟩ (fun hHeld => ?_)
  obtain ⟨wd, hwd⟩ : ∃ wd, w1.drew = wd := ⟨_, rfl⟩
  have HBX : Hid (Below W0.heap.size W0 wd) := hwd ▸ HB1.out.drew
  have HKX : Hid (Bk wd Kb 36 #[.int .i64 R.m.n, .int .i64 R.m.s, .slice ka R.m.i.length kb, .slice kc R.m.h.length kd, .slice ke R.m.e.length kf, .int .i64 R.m.z, .slice kg R.d.length kh, .slice ki R.p.length kj, .slice kk R.b.length kl, .int .i64 R.t, .int .i64 R.q, .bool R.f, .slice km R.s.length kn, .slice ko R.x.length kp]) := hwd ▸ HBk.out.drew
  have HYX : Hid (KernF (fun j => (W0.heap.size ≤ j ∧ j < w1.heap.size) ∧ j ≠ Kb) wd (.agg #[.int .i64 R.m.n, .int .i64 R.m.s, .slice ka R.m.i.length kb, .slice kc R.m.h.length kd, .slice ke R.m.e.length kf, .int .i64 R.m.z, .slice kg R.d.length kh, .slice ki R.p.length kj, .slice kk R.b.length kl, .int .i64 R.t, .int .i64 R.q, .bool R.f, .slice km R.s.length kn, .slice ko R.x.length kp]) R) := HKO.out.turns (S := fun _ => False) (hwd ▸ Turns.of_below (Below.refl _ w1).drew) (fun _ _ => id)
  have HWS : Hid (w1.heap.size ≤ wd.heap.size) := hwd ▸ (Below.refl w1.heap.size w1).drew.size
  have HWW := hidWNi HB1.out.size
  rw [hwd] at hHeld
  rw [hwd]
  clear hwd HB1 HBk HKO
  refine thWNi 0 { dst := some 16, op := Op.load 31 (Operand.tmp 1), type := 31, pos := _, after := _, guard := none } (.agg #[.int .i64 m.n, .int .i64 m.s, .slice ai m.i.length ci, .slice ah m.h.length ch, .slice ae m.e.length ce, .int .i64 m.z]) ?_
  try simp only [Act.put, List.setIfInBounds_toArray, List.set_cons_zero, List.set_cons_succ]
  refine thWNi 2 { dst := some 18, op := Op.load 36 (Operand.tmp 4), type := 36, pos := _, after := _, guard := none } (.agg #[.int .i64 R.m.n, .int .i64 R.m.s, .slice ka R.m.i.length kb, .slice kc R.m.h.length kd, .slice ke R.m.e.length kf, .int .i64 R.m.z, .slice kg R.d.length kh, .slice ki R.p.length kj, .slice kk R.b.length kl, .int .i64 R.t, .int .i64 R.q, .bool R.f, .slice km R.s.length kn, .slice ko R.x.length kp]) ?_
  try simp only [Act.put, List.setIfInBounds_toArray, List.set_cons_zero, List.set_cons_succ]
  refine wpAnyH_ready (rs := [1, 3]) (by kernel_rfl) (by simp) ?_
  refine AllReadyH.cons rfl (fun K hK => ?_) (AllReadyH.cons rfl (fun K hK => ?_) AllReadyH.nil)
  ·go_simp
   refine (copyM_any _ m wd (by have h9 := HS.out.i; omega) (by have h9 := HS.out.h; omega) (by have h9 := (ok_lps HOK.out).2.2.2; omega) (fun j hj => Nat.le_trans (rows8' HOK.out j) (by omega)) (HM.out.below (HB0.out.trans (HBX.out.mono HB0.out.size)))).mono ?_
   rintro e vc ⟨y3, rfl, hb, hmd⟩
   obtain ⟨avi, cvi, avh, cvh, avs, cvs, rfl⟩ := hmd.form
   obtain ⟨n0, hn0⟩ : ∃ n, n = wd.heap.size := ⟨_, rfl⟩
   obtain ⟨n1, hn1⟩ : ∃ n, n = vc.heap.size := ⟨_, rfl⟩
   rw [← hn0, ← hn1] at hmd
   have HMD := hidWNi hmd
   have HN0 : Hid (w1.heap.size ≤ n0) := hn0 ▸ HWS.out
   have HN1 : Hid (n1 ≤ vc.heap.size) := Nat.le_of_eq hn1
   have HB2 := hidWNi (HBX.out.trans (hb.mono HBX.out.size))
   have HK2 := hidWNi (HKX.out.below hb)
   have HY2 := hidWNi (HYX.out.turns (S := fun _ => False) (Turns.of_below hb) (fun _ _ => id))
   have HW2 := hidWNi (Nat.le_trans HWS.out hb.size)
   clear HBX HKX HYX HWS
   have HBX := HB2
   have HKX := HK2
   have HYX := HY2
   have HWS := HW2
   clear HB2 HK2 HY2 HW2
   clear hb hmd hn0 hn1
   try go_simp
   refine hK.out _ _ ⟨(HP0.out.below HBX.out).cell (i := 0) rfl, (HP0.out.below HBX.out).cell (i := 1) rfl, (HP0.out.below HBX.out).cell (i := 2) rfl, (HP0.out.below HBX.out).cell (i := 3) rfl, (HP0.out.below HBX.out).cell (i := 4) rfl, (HP0.out.below HBX.out).cell (i := 5) rfl, HKX.out.cell (i := 0) rfl, HKX.out.cell (i := 1) rfl, HKX.out.cell (i := 2) rfl, HKX.out.cell (i := 3) rfl, HKX.out.cell (i := 4) rfl, HKX.out.cell (i := 5) rfl, HKX.out.cell (i := 6) rfl, HKX.out.cell (i := 7) rfl, HKX.out.cell (i := 8) rfl, HKX.out.cell (i := 9) rfl, HKX.out.cell (i := 10) rfl, HKX.out.cell (i := 11) rfl, HKX.out.cell (i := 12) rfl, HKX.out.cell (i := 13) rfl⟩ (fun hHeld => ?_)
   clear hK K
   try simp only [Act.put, List.setIfInBounds_toArray, List.set_cons_zero, List.set_cons_succ]
   refine wpAnyH_ready (rs := [3]) (by kernel_rfl) (by simp) ?_
   refine AllReadyH.cons rfl (fun K hK => ?_) AllReadyH.nil
   obtain ⟨X, vx, HXe, HV, hb, hk⟩ := lay_any' vc #[.int .i64 R.m.n, .int .i64 R.m.s, .slice ka R.m.i.length kb, .slice kc R.m.h.length kd, .slice ke R.m.e.length kf, .int .i64 R.m.z, .slice kg R.d.length kh, .slice ki R.p.length kj, .slice kk R.b.length kl, .int .i64 R.t, .int .i64 R.q, .bool R.f, .slice km R.s.length kn, .slice ko R.x.length kp] 36
   have HXX := hidWNi hk
   have HXw : Hid (w1.heap.size ≤ X) := HXe.out ▸ HWS.out
   have HB2 := hidWNi (HBX.out.trans (hb.mono HBX.out.size))
   have HK2 := hidWNi (HKX.out.below hb)
   have HY2 := hidWNi (HYX.out.turns (S := fun _ => False) (Turns.of_below hb) (fun _ _ => id))
   have HW2 := hidWNi (Nat.le_trans HWS.out hb.size)
   have HXn : Hid (X < n0 ∨ n1 ≤ X) := .inr (HXe.out ▸ HN1.out)
   have HM2 := hidWNi (HMD.out.below hb)
   have HN2 : Hid (n1 ≤ vx.heap.size) := Nat.le_trans HN1.out hb.size
   clear HMD HN1
   have HMD := HM2
   have HN1 := HN2
   clear HM2 HN2
   clear HBX HKX HYX HWS
   have HBX := HB2
   have HKX := HK2
   have HYX := HY2
   have HWS := HW2
   clear HB2 HK2 HY2 HW2
   clear hb hk
   go_simp
   rw [HV.out, ← HXe.out]
   clear HV HXe
   refine hK.out _ _ ⟨(HP0.out.below HBX.out).cell (i := 0) rfl, (HP0.out.below HBX.out).cell (i := 1) rfl, (HP0.out.below HBX.out).cell (i := 2) rfl, (HP0.out.below HBX.out).cell (i := 3) rfl, (HP0.out.below HBX.out).cell (i := 4) rfl, (HP0.out.below HBX.out).cell (i := 5) rfl, HKX.out.cell (i := 0) rfl, HKX.out.cell (i := 1) rfl, HKX.out.cell (i := 2) rfl, HKX.out.cell (i := 3) rfl, HKX.out.cell (i := 4) rfl, HKX.out.cell (i := 5) rfl, HKX.out.cell (i := 6) rfl, HKX.out.cell (i := 7) rfl, HKX.out.cell (i := 8) rfl, HKX.out.cell (i := 9) rfl, HKX.out.cell (i := 10) rfl, HKX.out.cell (i := 11) rfl, HKX.out.cell (i := 12) rfl, HKX.out.cell (i := 13) rfl⟩ (fun hHeld => ?_)
   clear hK K
   try simp only [Act.put, List.setIfInBounds_toArray, List.set_cons_zero, List.set_cons_succ]
   refine thWNi 4 { dst := some 20, op := Op.build 51 #[(0, Operand.tmp 17), (1, Operand.tmp 19)], type := 51, pos := _, after := _, guard := none } (.agg #[.int .i64 m.n, .int .i64 m.s, .slice avi m.i.length cvi, .slice avh m.h.length cvh, .slice avs m.e.length cvs, .int .i64 m.z, .slice (some ⟨X, 0, none⟩) 1 1, .slice none 0 0]) ?_
   try simp only [Act.put, List.setIfInBounds_toArray, List.set_cons_zero, List.set_cons_succ]
   refine wpAnyH_ready (rs := [5]) (by kernel_rfl) (by simp) ?_
   refine AllReadyH.cons rfl (fun K hK => ?_) AllReadyH.nil
   obtain ⟨z0, z1, z2, z3, z4, z5, z6, z7⟩ := c8_8 (HR0.out.below HBX.out)
   have zf := (HR0.out.below HBX.out).free
   obtain ⟨wf, hwf⟩ : ∃ Wz, put8w vx Rb (.int .i64 m.n) (.int .i64 m.s) (.slice avi m.i.length cvi) (.slice avh m.h.length cvh) (.slice avs m.e.length cvs) (.int .i64 m.z) (.slice (some ⟨X, 0, none⟩) 1 1) (.slice none 0 0) = Wz := ⟨_, rfl⟩
   have HTF : Hid (Turns (fun j => j = Rb) vx wf) := hwf ▸ put8w_turns _ _ _ _ _ _ _ _ _ _
   have HRF : Hid (Bk wf Rb 51 #[.int .i64 m.n, .int .i64 m.s, .slice avi m.i.length cvi, .slice avh m.h.length cvh, .slice avs m.e.length cvs, .int .i64 m.z, .slice (some ⟨X, 0, none⟩) 1 1, .slice none 0 0]) := hwf ▸ (HR0.out.below HBX.out).put8w _ _ _ _ _ _ _ _
   have HBF := hidWNi ((HB0.out.trans ((HBX.out).mono HB0.out.size)).trans (HTF.out.to_below (fun j hj => by omega) (HB0.out.trans ((HBX.out).mono HB0.out.size)).size))
   have HPF := hidWNi ((HP0.out.below HBX.out).turns HTF.out (fun e => by omega))
   have HKF9 := hidWNi (HKX.out.turns HTF.out (fun e => by omega))
   unfold put8w at hwf
   have HWF : Hid _ := hwf
   clear hwf
   go_simp
   rw [HWF.out]
   clear HWF zf z0 z1 z2 z3 z4 z5 z6 z7
   refine hK.out _ _ ⟨HPF.out.cell (i := 0) rfl, HPF.out.cell (i := 1) rfl, HPF.out.cell (i := 2) rfl, HPF.out.cell (i := 3) rfl, HPF.out.cell (i := 4) rfl, HPF.out.cell (i := 5) rfl, HKF9.out.cell (i := 0) rfl, HKF9.out.cell (i := 1) rfl, HKF9.out.cell (i := 2) rfl, HKF9.out.cell (i := 3) rfl, HKF9.out.cell (i := 4) rfl, HKF9.out.cell (i := 5) rfl, HKF9.out.cell (i := 6) rfl, HKF9.out.cell (i := 7) rfl, HKF9.out.cell (i := 8) rfl, HKF9.out.cell (i := 9) rfl, HKF9.out.cell (i := 10) rfl, HKF9.out.cell (i := 11) rfl, HKF9.out.cell (i := 12) rfl, HKF9.out.cell (i := 13) rfl⟩ (fun hHeld => ?_)
   clear hK K
   try simp only [Act.put, List.setIfInBounds_toArray, List.set_cons_zero, List.set_cons_succ]
   refine thWNi 6 { dst := some 3, op := Op.assign (Operand.const (Value.bool true)), type := 4, pos := _, after := _, guard := none } (.bool true) ?_
   try simp only [Act.put, List.setIfInBounds_toArray, List.set_cons_zero, List.set_cons_succ]
   refine wpAnyH_done (by kernel_rfl) ?_ _
   go_wp2_with fail
   obtain ⟨t0, t1, t2, t3, t4, t5, t6, t7⟩ := c8_8 HRF.out
   refine bodyPost_ret (v := .tuple #[.agg #[.int .i64 m.n, .int .i64 m.s, .slice avi m.i.length cvi, .slice avh m.h.length cvh, .slice avs m.e.length cvs, .int .i64 m.z, .slice (some ⟨X, 0, none⟩) 1 1, .slice none 0 0], .bool true]) (by simp [results, Tryz.results18, go_sem, t0, t1, t2, t3, t4, t5, t6, t7]) rfl ⟨_, by rw [HYE.out], HBF.out, ?_⟩
   rw [world_yes HYE.out]
   have hR9 : R = newK m none4 := HR.out.trans (kern_yes ((kOk_none m).trans HYE.out))
   have h1 := HWS.out
   have h2 := HN0.out
   have h3 := HN1.out
   have h4 := HXw.out
   have h5 := HXn.out
   have h6 := HTF.out.size
   have h7 := HB0.out.size
   have h8 := HWW.out
   have hXlt := HXX.out.lt
   have hrow := row_own HXX.out HYX.out (fun e => by omega)
   rw [hR9] at hrow
   exact ⟨_, _, fun _ => False, _, _, _, _, _, rfl, HMD.out.turns HTF.out (fun j hj e => by omega), hrow.turns HTF.out (fun j hj e => by rcases hj with hj | hj <;> omega), .nil _ _ _ _ _ (Nat.zero_le _), fun j hj => ⟨⟨by omega, by omega⟩, fun e => by rcases e with e | e <;> omega, id⟩, fun j hj => ⟨by rcases hj with hj | hj <;> (constructor <;> omega), id⟩, fun _ h => h.elim⟩
  ·obtain ⟨X, vx, HXe, HV, hb, hk⟩ := lay_any' wd #[.int .i64 R.m.n, .int .i64 R.m.s, .slice ka R.m.i.length kb, .slice kc R.m.h.length kd, .slice ke R.m.e.length kf, .int .i64 R.m.z, .slice kg R.d.length kh, .slice ki R.p.length kj, .slice kk R.b.length kl, .int .i64 R.t, .int .i64 R.q, .bool R.f, .slice km R.s.length kn, .slice ko R.x.length kp] 36
   have HXX := hidWNi hk
   have HXw : Hid (w1.heap.size ≤ X) := HXe.out ▸ HWS.out
   have HB2 := hidWNi (HBX.out.trans (hb.mono HBX.out.size))
   have HK2 := hidWNi (HKX.out.below hb)
   have HY2 := hidWNi (HYX.out.turns (S := fun _ => False) (Turns.of_below hb) (fun _ _ => id))
   have HW2 := hidWNi (Nat.le_trans HWS.out hb.size)
   clear HBX HKX HYX HWS
   have HBX := HB2
   have HKX := HK2
   have HYX := HY2
   have HWS := HW2
   clear HB2 HK2 HY2 HW2
   clear hb hk
   go_simp
   rw [HV.out, ← HXe.out]
   clear HV HXe
   refine hK.out _ _ ⟨(HP0.out.below HBX.out).cell (i := 0) rfl, (HP0.out.below HBX.out).cell (i := 1) rfl, (HP0.out.below HBX.out).cell (i := 2) rfl, (HP0.out.below HBX.out).cell (i := 3) rfl, (HP0.out.below HBX.out).cell (i := 4) rfl, (HP0.out.below HBX.out).cell (i := 5) rfl, HKX.out.cell (i := 0) rfl, HKX.out.cell (i := 1) rfl, HKX.out.cell (i := 2) rfl, HKX.out.cell (i := 3) rfl, HKX.out.cell (i := 4) rfl, HKX.out.cell (i := 5) rfl, HKX.out.cell (i := 6) rfl, HKX.out.cell (i := 7) rfl, HKX.out.cell (i := 8) rfl, HKX.out.cell (i := 9) rfl, HKX.out.cell (i := 10) rfl, HKX.out.cell (i := 11) rfl, HKX.out.cell (i := 12) rfl, HKX.out.cell (i := 13) rfl⟩ (fun hHeld => ?_)
   clear hK K
   try simp only [Act.put, List.setIfInBounds_toArray, List.set_cons_zero, List.set_cons_succ]
   refine wpAnyH_ready (rs := [1]) (by kernel_rfl) (by simp) ?_
   refine AllReadyH.cons rfl (fun K hK => ?_) AllReadyH.nil
   go_simp
   refine (copyM_any _ m vx (by have h9 := HS.out.i; omega) (by have h9 := HS.out.h; omega) (by have h9 := (ok_lps HOK.out).2.2.2; omega) (fun j hj => Nat.le_trans (rows8' HOK.out j) (by omega)) (HM.out.below (HB0.out.trans (HBX.out.mono HB0.out.size)))).mono ?_
   rintro e vc ⟨y3, rfl, hb, hmd⟩
   obtain ⟨avi, cvi, avh, cvh, avs, cvs, rfl⟩ := hmd.form
   obtain ⟨n0, hn0⟩ : ∃ n, n = vx.heap.size := ⟨_, rfl⟩
   obtain ⟨n1, hn1⟩ : ∃ n, n = vc.heap.size := ⟨_, rfl⟩
   rw [← hn0, ← hn1] at hmd
   have HMD := hidWNi hmd
   have HN0 : Hid (w1.heap.size ≤ n0) := hn0 ▸ HWS.out
   have HN1 : Hid (n1 ≤ vc.heap.size) := Nat.le_of_eq hn1
   have HB2 := hidWNi (HBX.out.trans (hb.mono HBX.out.size))
   have HK2 := hidWNi (HKX.out.below hb)
   have HY2 := hidWNi (HYX.out.turns (S := fun _ => False) (Turns.of_below hb) (fun _ _ => id))
   have HW2 := hidWNi (Nat.le_trans HWS.out hb.size)
   have HXn : Hid (X < n0 ∨ n1 ≤ X) := .inl (hn0 ▸ HXX.out.lt)
   have HX2 := hidWNi (HXX.out.below hb)
   clear HXX
   have HXX := HX2
   clear HX2
   clear HBX HKX HYX HWS
   have HBX := HB2
   have HKX := HK2
   have HYX := HY2
   have HWS := HW2
   clear HB2 HK2 HY2 HW2
   clear hb hmd hn0 hn1
   try go_simp
   refine hK.out _ _ ⟨(HP0.out.below HBX.out).cell (i := 0) rfl, (HP0.out.below HBX.out).cell (i := 1) rfl, (HP0.out.below HBX.out).cell (i := 2) rfl, (HP0.out.below HBX.out).cell (i := 3) rfl, (HP0.out.below HBX.out).cell (i := 4) rfl, (HP0.out.below HBX.out).cell (i := 5) rfl, HKX.out.cell (i := 0) rfl, HKX.out.cell (i := 1) rfl, HKX.out.cell (i := 2) rfl, HKX.out.cell (i := 3) rfl, HKX.out.cell (i := 4) rfl, HKX.out.cell (i := 5) rfl, HKX.out.cell (i := 6) rfl, HKX.out.cell (i := 7) rfl, HKX.out.cell (i := 8) rfl, HKX.out.cell (i := 9) rfl, HKX.out.cell (i := 10) rfl, HKX.out.cell (i := 11) rfl, HKX.out.cell (i := 12) rfl, HKX.out.cell (i := 13) rfl⟩ (fun hHeld => ?_)
   clear hK K
   try simp only [Act.put, List.setIfInBounds_toArray, List.set_cons_zero, List.set_cons_succ]
   refine thWNi 4 { dst := some 20, op := Op.build 51 #[(0, Operand.tmp 17), (1, Operand.tmp 19)], type := 51, pos := _, after := _, guard := none } (.agg #[.int .i64 m.n, .int .i64 m.s, .slice avi m.i.length cvi, .slice avh m.h.length cvh, .slice avs m.e.length cvs, .int .i64 m.z, .slice (some ⟨X, 0, none⟩) 1 1, .slice none 0 0]) ?_
   try simp only [Act.put, List.setIfInBounds_toArray, List.set_cons_zero, List.set_cons_succ]
   refine wpAnyH_ready (rs := [5]) (by kernel_rfl) (by simp) ?_
   refine AllReadyH.cons rfl (fun K hK => ?_) AllReadyH.nil
   obtain ⟨z0, z1, z2, z3, z4, z5, z6, z7⟩ := c8_8 (HR0.out.below HBX.out)
   have zf := (HR0.out.below HBX.out).free
   obtain ⟨wf, hwf⟩ : ∃ Wz, put8w vc Rb (.int .i64 m.n) (.int .i64 m.s) (.slice avi m.i.length cvi) (.slice avh m.h.length cvh) (.slice avs m.e.length cvs) (.int .i64 m.z) (.slice (some ⟨X, 0, none⟩) 1 1) (.slice none 0 0) = Wz := ⟨_, rfl⟩
   have HTF : Hid (Turns (fun j => j = Rb) vc wf) := hwf ▸ put8w_turns _ _ _ _ _ _ _ _ _ _
   have HRF : Hid (Bk wf Rb 51 #[.int .i64 m.n, .int .i64 m.s, .slice avi m.i.length cvi, .slice avh m.h.length cvh, .slice avs m.e.length cvs, .int .i64 m.z, .slice (some ⟨X, 0, none⟩) 1 1, .slice none 0 0]) := hwf ▸ (HR0.out.below HBX.out).put8w _ _ _ _ _ _ _ _
   have HBF := hidWNi ((HB0.out.trans ((HBX.out).mono HB0.out.size)).trans (HTF.out.to_below (fun j hj => by omega) (HB0.out.trans ((HBX.out).mono HB0.out.size)).size))
   have HPF := hidWNi ((HP0.out.below HBX.out).turns HTF.out (fun e => by omega))
   have HKF9 := hidWNi (HKX.out.turns HTF.out (fun e => by omega))
   unfold put8w at hwf
   have HWF : Hid _ := hwf
   clear hwf
   go_simp
   rw [HWF.out]
   clear HWF zf z0 z1 z2 z3 z4 z5 z6 z7
   refine hK.out _ _ ⟨HPF.out.cell (i := 0) rfl, HPF.out.cell (i := 1) rfl, HPF.out.cell (i := 2) rfl, HPF.out.cell (i := 3) rfl, HPF.out.cell (i := 4) rfl, HPF.out.cell (i := 5) rfl, HKF9.out.cell (i := 0) rfl, HKF9.out.cell (i := 1) rfl, HKF9.out.cell (i := 2) rfl, HKF9.out.cell (i := 3) rfl, HKF9.out.cell (i := 4) rfl, HKF9.out.cell (i := 5) rfl, HKF9.out.cell (i := 6) rfl, HKF9.out.cell (i := 7) rfl, HKF9.out.cell (i := 8) rfl, HKF9.out.cell (i := 9) rfl, HKF9.out.cell (i := 10) rfl, HKF9.out.cell (i := 11) rfl, HKF9.out.cell (i := 12) rfl, HKF9.out.cell (i := 13) rfl⟩ (fun hHeld => ?_)
   clear hK K
   try simp only [Act.put, List.setIfInBounds_toArray, List.set_cons_zero, List.set_cons_succ]
   refine thWNi 6 { dst := some 3, op := Op.assign (Operand.const (Value.bool true)), type := 4, pos := _, after := _, guard := none } (.bool true) ?_
   try simp only [Act.put, List.setIfInBounds_toArray, List.set_cons_zero, List.set_cons_succ]
   refine wpAnyH_done (by kernel_rfl) ?_ _
   go_wp2_with fail
   obtain ⟨t0, t1, t2, t3, t4, t5, t6, t7⟩ := c8_8 HRF.out
   refine bodyPost_ret (v := .tuple #[.agg #[.int .i64 m.n, .int .i64 m.s, .slice avi m.i.length cvi, .slice avh m.h.length cvh, .slice avs m.e.length cvs, .int .i64 m.z, .slice (some ⟨X, 0, none⟩) 1 1, .slice none 0 0], .bool true]) (by simp [results, Tryz.results18, go_sem, t0, t1, t2, t3, t4, t5, t6, t7]) rfl ⟨_, by rw [HYE.out], HBF.out, ?_⟩
   rw [world_yes HYE.out]
   have hR9 : R = newK m none4 := HR.out.trans (kern_yes ((kOk_none m).trans HYE.out))
   have h1 := HWS.out
   have h2 := HN0.out
   have h3 := HN1.out
   have h4 := HXw.out
   have h5 := HXn.out
   have h6 := HTF.out.size
   have h7 := HB0.out.size
   have h8 := HWW.out
   have hXlt := HXX.out.lt
   have hrow := row_own HXX.out HYX.out (fun e => by omega)
   rw [hR9] at hrow
   exact ⟨_, _, fun _ => False, _, _, _, _, _, rfl, HMD.out.turns HTF.out (fun j hj e => by omega), hrow.turns HTF.out (fun j hj e => by rcases hj with hj | hj <;> omega), .nil _ _ _ _ _ (Nat.zero_le _), fun j hj => ⟨⟨by omega, by omega⟩, fun e => by rcases e with e | e <;> omega, id⟩, fun j hj => ⟨by rcases hj with hj | hj <;> (constructor <;> omega), id⟩, fun _ h => h.elim⟩
end Go.Proofs.YthfhibnnkpbeiaaGreat
