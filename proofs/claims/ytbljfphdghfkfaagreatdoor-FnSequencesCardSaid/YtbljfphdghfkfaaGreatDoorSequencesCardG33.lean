/- LDs, SqP, QSame, XEm, XSame, LSqA -/
import Derived.Test.YtbljfphdghfkfaaGreatDoorSequencesCardLLBent
import Derived.Test.YtbljfphdghfkfaaGreatDoorSequencesCardG21
import Derived.Test.YtbljfphdghfkfaaGreatDoorSequencesCardG19
import Derived.Test.YtbljfphdghfkfaaGreatDoorSequencesCardG00
import Derived.Deep.RegionHeld3
import Derived.Laws.StructEq
import Derived.Test.YtbljfphdghfkfaaGreatDoorSequencesCardG01
import Derived.Test.YtbljfphdghfkfaaGreatDoorSequencesCardLQuiet
import Derived.Test.YtbljfphdghfkfaaGreatDoorSequencesCardG28
import Derived.Test.YtbljfphdghfkfaaGreatDoorSequencesCardG20
import Derived.BigQuiet
import Derived.Deep.Cut
/- What FnSequences draws. -/
namespace Go.Proofs.YtbljfphdghfkfaaGreatDoor
open Go.RowKit
theorem ownN_turns {B : Nat} {S : Nat → Prop} {w w' : World} {x : Value} {l : List Int} (h : OwnI B w x l) (ht : Turns S w w') (hS : ∀ k, S k → k < B) : OwnI B w' x l := by
 obtain ⟨a, cap, rfl, h1, h2, h⟩ := h
 refine ⟨a, cap, rfl, h1, h2, h.imp id ?_⟩
 rintro ⟨b, rfl, hB, hf, hr⟩
 have hn : ¬ S b := fun e => by have := hS b e; omega
 exact ⟨b, rfl, hB, fun j hj => (ht.frozen hr.1 hn).trans (hf j hj), Nat.lt_of_lt_of_le hr.1 ht.size, fun i hi => (ht.cell hr.1 hn).trans (hr.2 i hi)⟩
set_option maxRecDepth 100000 in
set_option maxHeartbeats 32000000 in
theorem drawSeq_any (a : Option Addr) (n cap : Nat) (w : World) (hn : n ≤ 281474976710656) (hC : CodeIn w w.heap.size a n) :
  Calls Tryz.prog 17 #[.slice a n cap] w fun r w' => ∃ (m : Md) (xm xd : Value) (l : List Int) (z : Int), r = .returned (.tuple #[xm, xd, .int .i64 z]) ∧ IsM w' xm m ∧ Tiny m ∧ IsI w' xd l ∧ l.length = 4 ∧ Below w.heap.size w w' := by
 obtain ⟨W0, hW0⟩ : ∃ W0, w.alloc (.cells #[.int .i64 0, .int .i64 0, .slice none 0 0, .slice none 0 0, .slice none 0 0, .int .i64 0] 27) = W0 := ⟨_, rfl⟩
 have hz0 : W0.heap.size = w.heap.size + 1 := by rw [← hW0]; simp
 have R2_W0 : Hid (Bk W0 w.heap.size 27 #[.int .i64 0, .int .i64 0, .slice none 0 0, .slice none 0 0, .slice none 0 0, .int .i64 0]) := hW0 ▸ Bk.new w _ _
 have B_W0 : Hid (Below w.heap.size w W0) := hW0 ▸ (Below.refl _ w).alloc (Nat.le_refl _) _
 have HC : Hid (CodeIn W0 W0.heap.size a n) := (hC.below B_W0.out (Nat.le_refl _)).mono (by omega)
 have HW0 : Hid (w.alloc (.cells #[.int .i64 0, .int .i64 0, .slice none 0 0, .slice none 0 0, .slice none 0 0, .int .i64 0] 27) = W0) := hW0
 clear hW0 hC
 go_enter Tryz.func17, Tryz.ntmps17
 go_wp2_with fail
 rw [HW0.out]
 clear HW0
 refine (new_any a n cap _ hn HC.out).mono ?_
 rintro e w1 ⟨c, rfl, hcw, hC1, hB1⟩
 have hcl : c < w1.heap.size := hC1.lt
 have R2_w1 : Hid (Bk w1 w.heap.size 27 #[.int .i64 0, .int .i64 0, .slice none 0 0, .slice none 0 0, .slice none 0 0, .int .i64 0]) := R2_W0.out.below hB1
 have B_w1 : Hid (Below w.heap.size w w1) := B_W0.out.trans (hB1.mono B_W0.out.size)
 clear R2_W0 B_W0
 have C_w1 : Hid (Cur w1 c) := hC1
 clear hC1 hB1 HC
 go_wp2_with fail
 refine (l2bent_any c _ C_w1.out).mono ?_
 rintro e w2 ⟨m, xm, rfl, hM, hTy, hC, hT⟩
 have HM : Hid (MdF (fun k => w1.heap.size ≤ k ∧ k < w2.heap.size) w2 xm m) := hM
 have HTy : Hid (Tiny m) := hTy
 have hz2 : w1.heap.size ≤ w2.heap.size := hT.size
 obtain ⟨A, B, C, vi, vh, vs, hxm, ⟨_, ai, ci, hvi, _⟩, ⟨U, F0, G0, ⟨_, ah, ch, hvh, _⟩, _⟩, ⟨_, ae, ce, hve, _⟩, _⟩ := hM
 subst hvi hvh hve hxm
 clear hTy
 have R2_w2 : Hid (Bk w2 w.heap.size 27 #[.int .i64 0, .int .i64 0, .slice none 0 0, .slice none 0 0, .slice none 0 0, .int .i64 0]) := R2_w1.out.turns hT (by omega)
 have B_w2 : Hid (Below w.heap.size w w2) := B_w1.out.trans (hT.to_below (fun k hk => by omega) B_w1.out.size)
 have C_w2 : Hid (Cur w2 c) := hC
 clear R2_w1 B_w1 C_w1
 clear hT hC
 obtain ⟨Mb, hMb⟩ : ∃ P, P = w2.heap.size := ⟨_, rfl⟩
 obtain ⟨W3, hW3⟩ : ∃ V, w2.alloc (.cells #[.int .i64 m.n, .int .i64 m.s, .slice ai m.i.length ci, .slice ah m.h.length ch, .slice ae m.e.length ce, .int .i64 m.z] 27) = V := ⟨_, rfl⟩
 have HW3 : Hid (w2.alloc (.cells #[.int .i64 m.n, .int .i64 m.s, .slice ai m.i.length ci, .slice ah m.h.length ch, .slice ae m.e.length ce, .int .i64 m.z] 27) = W3) := hW3
 have HMb : Hid (Mb = w2.heap.size) := hMb
 have R2_W3 : Hid (Bk W3 w.heap.size 27 #[.int .i64 0, .int .i64 0, .slice none 0 0, .slice none 0 0, .slice none 0 0, .int .i64 0]) := hW3 ▸ R2_w2.out.alloc _
 have B_W3 : Hid (Below w.heap.size w W3) := hW3 ▸ B_w2.out.alloc B_w2.out.size _
 have C_W3 : Hid (Cur W3 c) := hW3 ▸ C_w2.out.alloc _
 clear R2_w2 B_w2 C_w2
 have M_W3 : Hid (Bk W3 Mb 27 #[.int .i64 m.n, .int .i64 m.s, .slice ai m.i.length ci, .slice ah m.h.length ch, .slice ae m.e.length ce, .int .i64 m.z]) := hW3 ▸ hMb ▸ Bk.new w2 _ _
 have TM_W3 : Hid (Turns (fun k => k = c) w2 W3) := hW3 ▸ (Turns.refl _ w2).alloc _
 have hMb2 : w2.heap.size ≤ Mb := by omega
 have hM3 : Mb < W3.heap.size := M_W3.out.lt
 clear hW3 hMb
 go_wp2_with fail
 rw [HW3.out, ← HMb.out]
 clear HW3 HMb
 refine (l3_any c _ C_W3.out).mono ?_
 rintro e w4 ⟨xd, l, rfl, hl, hO, hC, hT⟩
 have HL : Hid (l.length = 4) := hl
 have HO : Hid (OwnI W3.heap.size w4 xd l) := hO
 have hz4 : W3.heap.size ≤ w4.heap.size := hT.size
 have hc3 : c < W3.heap.size := C_W3.out.lt
 clear hl hO
 have R2_w4 : Hid (Bk w4 w.heap.size 27 #[.int .i64 0, .int .i64 0, .slice none 0 0, .slice none 0 0, .slice none 0 0, .int .i64 0]) := R2_W3.out.turns hT (by omega)
 have B_w4 : Hid (Below w.heap.size w w4) := B_W3.out.trans (hT.to_below (fun k hk => by omega) B_W3.out.size)
 have C_w4 : Hid (Cur w4 c) := hC
 have M_w4 : Hid (Bk w4 Mb 27 #[.int .i64 m.n, .int .i64 m.s, .slice ai m.i.length ci, .slice ah m.h.length ch, .slice ae m.e.length ce, .int .i64 m.z]) := M_W3.out.turns hT (by omega)
 have TM_w4 : Hid (Turns (fun k => k = c) w2 w4) := TM_W3.out.trans hT
 clear R2_W3 B_W3 C_W3 M_W3 TM_W3
 clear hT hC
 have TD_w4 : Hid (Turns (fun k => k = c) w4 w4) := Turns.refl _ w4
 go_wp2_with fail
 refine wp_region_held_drew (S := fun W => W.cell? ⟨Mb, 0, none⟩ = some (.int .i64 m.n) ∧ W.cell? ⟨Mb, 1, none⟩ = some (.int .i64 m.s) ∧ W.cell? ⟨Mb, 2, none⟩ = some (.slice ai m.i.length ci) ∧ W.cell? ⟨Mb, 3, none⟩ = some (.slice ah m.h.length ch) ∧ W.cell? ⟨Mb, 4, none⟩ = some (.slice ae m.e.length ce) ∧ W.cell? ⟨Mb, 5, none⟩ = some (.int .i64 m.z)) (by kernel_rfl) ⟨M_w4.out.drew.cell (i := 0) rfl, M_w4.out.drew.cell (i := 1) rfl, M_w4.out.drew.cell (i := 2) rfl, M_w4.out.drew.cell (i := 3) rfl, M_w4.out.drew.cell (i := 4) rfl, M_w4.out.drew.cell (i := 5) rfl⟩ (fun hHeld => ?_)
 obtain ⟨w5, hw5⟩ : ∃ V, w4.drew = V := ⟨_, rfl⟩
 have hb : Below w4.heap.size w4 w5 := hw5 ▸ (Below.refl w4.heap.size w4).drew
 have hC : Cur w5 c := hw5 ▸ C_w4.out.drew
 rw [hw5] at hHeld
 rw [hw5]
 clear hw5
 have R2_w5 : Hid (Bk w5 w.heap.size 27 #[.int .i64 0, .int .i64 0, .slice none 0 0, .slice none 0 0, .slice none 0 0, .int .i64 0]) := R2_w4.out.below hb
 have B_w5 : Hid (Below w.heap.size w w5) := B_w4.out.trans (hb.mono B_w4.out.size)
 have C_w5 : Hid (Cur w5 c) := hC
 have M_w5 : Hid (Bk w5 Mb 27 #[.int .i64 m.n, .int .i64 m.s, .slice ai m.i.length ci, .slice ah m.h.length ch, .slice ae m.e.length ce, .int .i64 m.z]) := M_w4.out.below hb
 have TM_w5 : Hid (Turns (fun k => k = c) w2 w5) := TM_w4.out.trans (Turns.of_below hb)
 have TD_w5 : Hid (Turns (fun k => k = c) w4 w5) := TD_w4.out.trans (Turns.of_below hb)
 clear R2_w4 B_w4 C_w4 M_w4 TM_w4 TD_w4
 clear hb hC
 refine wpAnyH_take (i := 0) (oi := { dst := some 14, op := Op.load 27 (Operand.tmp 6), type := 27, pos := _, after := _, guard := none }) (v := .agg #[.int .i64 m.n, .int .i64 m.s, .slice ai m.i.length ci, .slice ah m.h.length ch, .slice ae m.e.length ce, .int .i64 m.z]) rfl (by kernel_rfl) (by kernel_rfl) (by kernel_rfl) (fun _ _ _ h => h) (Or.inl ⟨by rfl, ?_⟩) (by assumption) ?_
 ·intro wX hSw
  try dsimp only at hSw
  go_simp
  try exact IntWalk.i64_in _ (by omega)
 try simp only [Act.put, List.setIfInBounds_toArray, List.set_cons_zero, List.set_cons_succ]
 refine wpAnyH_take (i := 1) (oi := { dst := some 15, op := Op.move (Operand.tmp 7), type := 23, pos := _, after := _, guard := none }) (v := xd) rfl (by kernel_rfl) (by kernel_rfl) (by kernel_rfl) (fun _ _ _ h => h) (Or.inl ⟨by rfl, ?_⟩) (by assumption) ?_
 ·intro wX hSw
  try dsimp only at hSw
  go_simp
  try exact IntWalk.i64_in _ (by omega)
 try simp only [Act.put, List.setIfInBounds_toArray, List.set_cons_zero, List.set_cons_succ]
 refine wpAnyH_take (i := 2) (oi := { dst := some 16, op := Op.move (Operand.tmp 5), type := 60, pos := _, after := _, guard := none }) (v := .pointer (some ⟨c, 0, none⟩)) rfl (by kernel_rfl) (by kernel_rfl) (by kernel_rfl) (fun _ _ _ h => h) (Or.inl ⟨by rfl, ?_⟩) (by assumption) ?_
 ·intro wX hSw
  try dsimp only at hSw
  go_simp
  try exact IntWalk.i64_in _ (by omega)
 try simp only [Act.put, List.setIfInBounds_toArray, List.set_cons_zero, List.set_cons_succ]
 refine wpAnyH_take (i := 3) (oi := { dst := some 17, op := Op.fieldAddr 27 (Operand.tmp 6) 5, type := 0, pos := _, after := _, guard := none }) (v := .pointer (some ⟨Mb, 5, none⟩)) rfl (by kernel_rfl) (by kernel_rfl) (by kernel_rfl) (fun _ _ _ h => h) (Or.inl ⟨by rfl, ?_⟩) (by assumption) ?_
 ·intro wX hSw
  try dsimp only at hSw
  go_simp
  try exact IntWalk.i64_in _ (by omega)
 try simp only [Act.put, List.setIfInBounds_toArray, List.set_cons_zero, List.set_cons_succ]
 refine wpAnyH_take (i := 4) (oi := { dst := some 18, op := Op.load 3 (Operand.tmp 17), type := 3, pos := _, after := _, guard := none }) (v := .int .i64 m.z) rfl (by kernel_rfl) (by kernel_rfl) (by kernel_rfl) (fun _ _ _ h => h) (Or.inl ⟨by rfl, ?_⟩) (by assumption) ?_
 ·intro wX hSw
  try dsimp only at hSw
  go_simp
  try exact IntWalk.i64_in _ (by omega)
 try simp only [Act.put, List.setIfInBounds_toArray, List.set_cons_zero, List.set_cons_succ]
 refine wpAnyH_take (i := 5) (oi := { dst := some 19, op := Op.fieldAddr 27 (Operand.tmp 6) 5, type := 0, pos := _, after := _, guard := none }) (v := .pointer (some ⟨Mb, 5, none⟩)) rfl (by kernel_rfl) (by kernel_rfl) (by kernel_rfl) (fun _ _ _ h => h) (Or.inl ⟨by rfl, ?_⟩) (by assumption) ?_
 ·intro wX hSw
  try dsimp only at hSw
  go_simp
  try exact IntWalk.i64_in _ (by omega)
 try simp only [Act.put, List.setIfInBounds_toArray, List.set_cons_zero, List.set_cons_succ]
 refine wpAnyH_take (i := 6) (oi := { dst := some 20, op := Op.load 3 (Operand.tmp 19), type := 3, pos := _, after := _, guard := none }) (v := .int .i64 m.z) rfl (by kernel_rfl) (by kernel_rfl) (by kernel_rfl) (fun _ _ _ h => h) (Or.inl ⟨by rfl, ?_⟩) (by assumption) ?_
 ·intro wX hSw
  try dsimp only at hSw
  go_simp
  try exact IntWalk.i64_in _ (by omega)
 try simp only [Act.put, List.setIfInBounds_toArray, List.set_cons_zero, List.set_cons_succ]
 refine wpAnyH_take (i := 7) (oi := { dst := some 21, op := Op.fieldAddr 27 (Operand.tmp 6) 5, type := 0, pos := _, after := _, guard := none }) (v := .pointer (some ⟨Mb, 5, none⟩)) rfl (by kernel_rfl) (by kernel_rfl) (by kernel_rfl) (fun _ _ _ h => h) (Or.inl ⟨by rfl, ?_⟩) (by assumption) ?_
 ·intro wX hSw
  try dsimp only at hSw
  go_simp
  try exact IntWalk.i64_in _ (by omega)
 try simp only [Act.put, List.setIfInBounds_toArray, List.set_cons_zero, List.set_cons_succ]
 refine wpAnyH_take (i := 8) (oi := { dst := some 22, op := Op.load 3 (Operand.tmp 21), type := 3, pos := _, after := _, guard := none }) (v := .int .i64 m.z) rfl (by kernel_rfl) (by kernel_rfl) (by kernel_rfl) (fun _ _ _ h => h) (Or.inl ⟨by rfl, ?_⟩) (by assumption) ?_
 ·intro wX hSw
  try dsimp only at hSw
  go_simp
  try exact IntWalk.i64_in _ (by omega)
 try simp only [Act.put, List.setIfInBounds_toArray, List.set_cons_zero, List.set_cons_succ]
 refine wpAnyH_take (i := 9) (oi := { dst := some 23, op := Op.binOp BinOp.add 3 (Operand.tmp 22) (Operand.const (Value.int IntKind.i64 1)) 3, type := 3, pos := _, after := _, guard := none }) (v := .int .i64 (IntKind.i64.wrap (m.z + 1))) rfl (by kernel_rfl) (by kernel_rfl) (by kernel_rfl) (fun _ _ _ h => h) (Or.inl ⟨by rfl, ?_⟩) (by assumption) ?_
 ·intro wX hSw
  try dsimp only at hSw
  go_simp
  try exact IntWalk.i64_in _ (by omega)
 try simp only [Act.put, List.setIfInBounds_toArray, List.set_cons_zero, List.set_cons_succ]
 refine wpAnyH_ready (rs := [10]) (by kernel_rfl) (by simp) ?_
 refine AllReadyH.cons (o := { dst := some 24, op := Op.buildSlice 23 6 #[(0, Operand.tmp 18), (1, Operand.tmp 20), (2, Operand.const (Value.int IntKind.i64 3)), (3, Operand.const (Value.int IntKind.i64 0)), (4, Operand.tmp 23), (5, Operand.const (Value.int IntKind.i64 (-1)))], type := 23, pos := _, after := _, guard := none }) rfl (fun K hK => ?_) AllReadyH.nil
 obtain ⟨g, w6, hg, hV, hb, hk⟩ : ∃ g V, g = w5.heap.size ∧ w5.alloc (.cells #[.int .i64 m.z, .int .i64 m.z, .int .i64 3, .int .i64 0, .int .i64 (IntKind.i64.wrap (m.z + 1)), .int .i64 (-1)] 3) = V ∧ Below w5.heap.size w5 V ∧ ListAt V g 6 (fun _ => True) := ⟨_, _, rfl, rfl, (Below.refl _ w5).alloc (Nat.le_refl _) _, lstOf w5 3 [m.z, m.z, 3, 0, IntKind.i64.wrap (m.z + 1), -1] _ (fun _ _ => trivial)⟩
 have HV : Hid _ := hV
 have HG : Hid (g = w5.heap.size) := hg
 have hcg : c < g := hg ▸ C_w5.out.lt
 have HLs : Hid (ListAt w6 g 6 (fun _ => True)) := hk
 have M6 := M_w5.out.below hb
 have HC6 : Hid (Cur w6 c) := hV ▸ C_w5.out.alloc _
 clear hk hg
 go_simp
 try rw [HV.out]
 rw [← HG.out]
 refine hK.out _ _ ⟨M6.cell (i := 0) rfl, M6.cell (i := 1) rfl, M6.cell (i := 2) rfl, M6.cell (i := 3) rfl, M6.cell (i := 4) rfl, M6.cell (i := 5) rfl⟩ (fun hHeld => ?_)
 clear hK K
 try simp only [Act.put, List.setIfInBounds_toArray, List.set_cons_zero, List.set_cons_succ]
 have R2_w6 : Hid (Bk w6 w.heap.size 27 #[.int .i64 0, .int .i64 0, .slice none 0 0, .slice none 0 0, .slice none 0 0, .int .i64 0]) := R2_w5.out.below hb
 have B_w6 : Hid (Below w.heap.size w w6) := B_w5.out.trans (hb.mono B_w5.out.size)
 have C_w6 : Hid (Cur w6 c) := HC6.out
 have M_w6 : Hid (Bk w6 Mb 27 #[.int .i64 m.n, .int .i64 m.s, .slice ai m.i.length ci, .slice ah m.h.length ch, .slice ae m.e.length ce, .int .i64 m.z]) := M_w5.out.below hb
 have TM_w6 : Hid (Turns (fun k => k = c) w2 w6) := TM_w5.out.trans (Turns.of_below hb)
 have TD_w6 : Hid (Turns (fun k => k = c) w4 w6) := TD_w5.out.trans (Turns.of_below hb)
 clear R2_w5 B_w5 C_w5 M_w5 TM_w5 TD_w5
 clear hb M6 hV HV HG HC6
 refine wpAnyH_ready (rs := [11]) (by kernel_rfl) (by simp) ?_
 refine AllReadyH.cons (o := { dst := some 25, op := Op.call { callee := Callee.value (Operand.func 51), args := #[Operand.tmp 16, Operand.tmp 24], argTypes := #[60, 23] }, type := 3, pos := _, after := _, guard := none }) rfl (fun K hK => ?_) AllReadyH.nil
 go_simp
 refine (pick_any c g 6 (fun _ => True) w6 (by omega) (by omega) (by omega) C_w6.out HLs.out).mono ?_
 rintro e w7 ⟨y, rfl, _, hC, hT⟩
 have M7 := M_w6.out.turns hT (by omega)
 try go_simp
 refine hK.out _ _ ⟨M7.cell (i := 0) rfl, M7.cell (i := 1) rfl, M7.cell (i := 2) rfl, M7.cell (i := 3) rfl, M7.cell (i := 4) rfl, M7.cell (i := 5) rfl⟩ (fun hHeld => ?_)
 clear hK K
 try simp only [Act.put, List.setIfInBounds_toArray, List.set_cons_zero, List.set_cons_succ]
 have R2_w7 : Hid (Bk w7 w.heap.size 27 #[.int .i64 0, .int .i64 0, .slice none 0 0, .slice none 0 0, .slice none 0 0, .int .i64 0]) := R2_w6.out.turns hT (by omega)
 have B_w7 : Hid (Below w.heap.size w w7) := B_w6.out.trans (hT.to_below (fun k hk => by omega) B_w6.out.size)
 have C_w7 : Hid (Cur w7 c) := hC
 have M_w7 : Hid (Bk w7 Mb 27 #[.int .i64 m.n, .int .i64 m.s, .slice ai m.i.length ci, .slice ah m.h.length ch, .slice ae m.e.length ce, .int .i64 m.z]) := M_w6.out.turns hT (by omega)
 have TM_w7 : Hid (Turns (fun k => k = c) w2 w7) := TM_w6.out.trans hT
 have TD_w7 : Hid (Turns (fun k => k = c) w4 w7) := TD_w6.out.trans hT
 clear R2_w6 B_w6 C_w6 M_w6 TM_w6 TD_w6
 clear hT hC
 clear M7
 refine wpAnyH_ready (rs := [12]) (by kernel_rfl) (by simp) ?_
 refine AllReadyH.cons (o := { dst := none, op := Op.store 27 (Operand.tmp 2) (Operand.tmp 14), type := 0, pos := _, after := _, guard := none }) rfl (fun K hK => ?_) AllReadyH.nil
 have q0 := R2_w7.out.cell (i := 0) rfl
 have q1 := R2_w7.out.cell (i := 1) rfl
 have q2 := R2_w7.out.cell (i := 2) rfl
 have q3 := R2_w7.out.cell (i := 3) rfl
 have q4 := R2_w7.out.cell (i := 4) rfl
 have q5 := R2_w7.out.cell (i := 5) rfl
 have qf := R2_w7.out.free
 obtain ⟨X1, hX1⟩ : ∃ X, put6 w7 w.heap.size (.int .i64 m.n) (.int .i64 m.s) (.slice ai m.i.length ci) (.slice ah m.h.length ch) (.slice ae m.e.length ce) (.int .i64 m.z) = X := ⟨_, rfl⟩
 have HP1 : Hid (Bk X1 w.heap.size 27 #[.int .i64 m.n, .int .i64 m.s, .slice ai m.i.length ci, .slice ah m.h.length ch, .slice ae m.e.length ce, .int .i64 m.z]) := hX1 ▸ R2_w7.out.put6 (.int .i64 m.n) (.int .i64 m.s) (.slice ai m.i.length ci) (.slice ah m.h.length ch) (.slice ae m.e.length ce) (.int .i64 m.z)
 have HT1 : Hid (Turns (fun b => b = w.heap.size) w7 X1) := hX1 ▸ put6_turns w7 w.heap.size (.int .i64 m.n) (.int .i64 m.s) (.slice ai m.i.length ci) (.slice ah m.h.length ch) (.slice ae m.e.length ce) (.int .i64 m.z)
 have HM1 := M_w7.out.turns HT1.out (by omega)
 unfold put6 at hX1
 have HX1 : Hid _ := hX1
 clear hX1
 go_simp
 rw [HX1.out]
 clear HX1 qf q0 q1 q2 q3 q4 q5
 refine hK.out _ _ ⟨HM1.cell (i := 0) rfl, HM1.cell (i := 1) rfl, HM1.cell (i := 2) rfl, HM1.cell (i := 3) rfl, HM1.cell (i := 4) rfl, HM1.cell (i := 5) rfl⟩ (fun hHeld => ?_)
 clear hK K
 try simp only [Act.put, List.setIfInBounds_toArray, List.set_cons_zero, List.set_cons_succ]
 refine wpAnyH_take (i := 13) (oi := { dst := some 3, op := Op.assign (Operand.tmp 15), type := 23, pos := _, after := _, guard := none }) (v := xd) rfl (by kernel_rfl) (by kernel_rfl) (by kernel_rfl) (fun _ _ _ h => h) (Or.inl ⟨by rfl, ?_⟩) (by assumption) ?_
 ·intro wX hSw
  try dsimp only at hSw
  go_simp
  try exact IntWalk.i64_in _ (by omega)
 try simp only [Act.put, List.setIfInBounds_toArray, List.set_cons_zero, List.set_cons_succ]
 refine wpAnyH_take (i := 14) (oi := { dst := some 4, op := Op.assign (Operand.tmp 25), type := 3, pos := _, after := _, guard := none }) (v := .int .i64 y) rfl (by kernel_rfl) (by kernel_rfl) (by kernel_rfl) (fun _ _ _ h => h) (Or.inl ⟨by rfl, ?_⟩) (by assumption) ?_
 ·intro wX hSw
  try dsimp only at hSw
  go_simp
  try exact IntWalk.i64_in _ (by omega)
 try simp only [Act.put, List.setIfInBounds_toArray, List.set_cons_zero, List.set_cons_succ]
 refine wpAnyH_done (by kernel_rfl) ?_ _
 clear hHeld HM1
 have HB9 : Hid (Below w.heap.size w X1) := B_w7.out.trans (HT1.out.to_below (fun k hk => by omega) B_w7.out.size)
 have HI9 : Hid (IsI X1 xd l) := (ownN_turns (ownN_turns HO.out TD_w7.out (fun k e => by omega)) HT1.out (fun k e => by omega)).isI
 have HM9 : Hid (IsM X1 (.agg #[.int .i64 m.n, .int .i64 m.s, .slice ai m.i.length ci, .slice ah m.h.length ch, .slice ae m.e.length ce, .int .i64 m.z]) m) := ((HM.out.turns TM_w7.out (fun k hk e => by omega)).turns HT1.out (fun k hk e => by omega)).isM
 have a0 := HP1.out.cell (i := 0) rfl
 have a1 := HP1.out.cell (i := 1) rfl
 have a2 := HP1.out.cell (i := 2) rfl
 have a3 := HP1.out.cell (i := 3) rfl
 have a4 := HP1.out.cell (i := 4) rfl
 have a5 := HP1.out.cell (i := 5) rfl
 go_wp2_with fail
 refine bodyPost_ret (v := .tuple #[.agg #[.int .i64 m.n, .int .i64 m.s, .slice ai m.i.length ci, .slice ah m.h.length ch, .slice ae m.e.length ce, .int .i64 m.z], xd, .int .i64 y]) (by simp [results, Tryz.results17, go_sem, a0, a1, a2, a3, a4, a5]) rfl ⟨m, _, _, l, y, rfl, HM9.out, HTy.out, HI9.out, HL.out, HB9.out⟩
end Go.Proofs.YtbljfphdghfkfaaGreatDoor

/- One history as the beginning of another one: a later time, a decision more; all of it in order, each event that may be. -/
namespace Go.Proofs.YtbljfphdghfkfaaGreatDoor
open Go.RowKit
def Begins (a b : Hi) : Prop := a.ev <+: b.ev ∧ a.em <+: b.em
theorem Begins.refl (a : Hi) : Begins a a := ⟨List.prefix_rfl, List.prefix_rfl⟩
section
variable {pop : List Ev → List Ev} {plan : List Ev → List Ev → List Ev} {m : Md} {v v' : List Int} {z z' : Int}
theorem seq_ext : ∀ (f : Nat) (c : Co), c.ev <+: (seqG pop plan m v z f c).ev ∧ c.em <+: (seqG pop plan m v z f c).em
 | 0, _ => ⟨List.prefix_rfl, List.prefix_rfl⟩
 | f + 1, c => by
  unfold seqG
  split
  ·split
   ·exact ⟨List.prefix_rfl, List.prefix_rfl⟩
   ·split
    ·exact ⟨List.prefix_rfl, List.prefix_rfl⟩
    ·have h := seq_ext f (nextC pop plan m v c)
     exact ⟨(List.prefix_append c.ev [evAt c.td 0]).trans h.1, (List.prefix_append c.em (effC m v c).x).trans h.2⟩
  ·exact ⟨List.prefix_rfl, List.prefix_rfl⟩
theorem seq_more (hz : z ≤ z') : ∀ (f : Nat) (c : Co), Begins (seqG pop plan m v z f c) (seqG pop plan m v z' f c)
 | 0, _ => Begins.refl _
 | f + 1, c => by
  by_cases h : 0 < c.td.length ∧ (evAt c.td 0).t ≤ z
  ·have h' : 0 < c.td.length ∧ (evAt c.td 0).t ≤ z' := ⟨h.1, by omega⟩
   unfold seqG
   rw [if_pos h, if_pos h']
   split
   ·exact Begins.refl _
   ·split
    ·exact Begins.refl _
    ·exact seq_more hz f _
  ·have e : seqG pop plan m v z (f + 1) c = ⟨c.ev, c.em, -1, false⟩ := by rw [seqG, if_neg h]
   rw [e]
   exact seq_ext (f + 1) c
theorem run_neg {sd : Int} {e : Ev} {l : List O} {k : Int} : ∀ (f i : Nat) (t : Tn), run sd v e l f i t = .asks k → intAt v k.toNat < 0
 | 0, _, _, h => by cases h
 | f + 1, i, t, h => by
  unfold run at h
  split at h
  ·split at h
   ·rename_i hw
    cases h
    exact hw.2
   ·exact run_neg f _ _ h
  ·cases h
theorem run_made {sd : Int} {e : Ev} {l : List O} (hv : ∀ a, 0 ≤ intAt v a → intAt v' a = intAt v a) {u : Tn} : ∀ (f i : Nat) (t : Tn), run sd v e l f i t = .done u → run sd v' e l f i t = .done u
 | 0, _, _, h => h
 | f + 1, i, t, h => by
  unfold run at h ⊢
  split
  ·rename_i hi
   rw [if_pos hi] at h
   split at h
   ·cases h
   ·rename_i hw
    have hs : stepO sd v' e (oAt l i) t = stepO sd v e (oAt l i) t := by
     by_cases h4 : (oAt l i).c = 4
     ·have h0 : 0 ≤ intAt v (oAt l i).a.toNat := Int.not_lt.1 (fun x => hw ⟨h4, x⟩)
      unfold stepO
      rw [hv _ h0]
     ·unfold stepO
      simp only [h4, if_false]
    have hw' : ¬ waitsO v' (oAt l i) := fun x => hw ⟨x.1, by
     by_cases h0 : 0 ≤ intAt v (oAt l i).a.toNat
     ·have := hv _ h0
      have := x.2
      omega
     ·omega⟩
    rw [if_neg hw', hs]
    exact run_made hv f _ _ h
  ·rename_i hi
   rw [if_neg hi] at h
   exact h
theorem eff_neg {s : St} {e : Ev} (h : 0 ≤ (effR m v s e).k) : intAt v (effR m v s e).k.toNat < 0 := by
 unfold effR at h ⊢
 cases hr : run m.s v e (hAt m.h e.k.toNat) (hAt m.h e.k.toNat).length 0 (startT s) with
 | asks k =>
  rw [hr] at h
  exact run_neg _ _ _ hr
 | done t =>
  rw [hr] at h
  exact absurd h (by show ¬ 0 ≤ (-1 : Int); omega)
theorem eff_made (hv : ∀ a, 0 ≤ intAt v a → intAt v' a = intAt v a) {s : St} {e : Ev} (h : ¬ 0 ≤ (effR m v s e).k) (hk : ∀ k, run m.s v e (hAt m.h e.k.toNat) (hAt m.h e.k.toNat).length 0 (startT s) = .asks k → 0 ≤ k) : effR m v' s e = effR m v s e := by
 unfold effR at h ⊢
 cases hr : run m.s v e (hAt m.h e.k.toNat) (hAt m.h e.k.toNat).length 0 (startT s) with
 | asks k =>
  rw [hr] at h
  exact absurd (hk k hr) h
 | done t => rw [run_made hv _ _ _ hr]
end
theorem seq_neg {pop : List Ev → List Ev} {plan : List Ev → List Ev → List Ev} {m : Md} {v : List Int} {z : Int} : ∀ (f : Nat) (c : Co), 0 ≤ (seqG pop plan m v z f c).k → intAt v (seqG pop plan m v z f c).k.toNat < 0
 | 0, _, h => absurd h (by show ¬ 0 ≤ (-1 : Int); omega)
 | f + 1, c, h => by
  unfold seqG at h ⊢
  split
  ·rename_i h0
   rw [if_pos h0] at h
   split
   ·rename_i h1
    rw [if_pos h1] at h
    exact absurd h (by show ¬ 0 ≤ (-1 : Int); omega)
   ·rename_i h1
    rw [if_neg h1] at h
    split
    ·rename_i h2
     exact eff_neg h2
    ·rename_i h2
     rw [if_neg h2] at h
     exact seq_neg f _ h
  ·rename_i h0
   rw [if_neg h0] at h
   exact absurd h (by show ¬ 0 ≤ (-1 : Int); omega)
theorem asks_in {m : Md} {c0 c1 c2 c3 : Int} {s : St} {e : Ev} {k : Int} (hf : Fit m c0 c1 c2 c3 s e) (h : run m.s [c0, c1, c2, c3] e (hAt m.h e.k.toNat) (hAt m.h e.k.toNat).length 0 (startT s) = .asks k) : 0 ≤ k ∧ k ≤ 3 := by
 have hev := hf.ev
 simp only [Ev.ok, okB, decide_eq_true_eq] at hev
 have hk := hf.k
 have hkl : e.k.toNat < m.h.length := by omega
 obtain ⟨h8, hops⟩ := ok_ops hf.ok hkl
 have h9 := run_ends (sd := m.s) (v := [c0, c1, c2, c3]) hops (vec_int c0 c1 c2 c3 hf.vc) (hAt m.h e.k.toNat).length 0 0 (startT s) (start_went (m := m) (e := e) hf.st) (Nat.le_refl _) (Nat.zero_le _)
 rw [h] at h9
 exact h9
section
variable {m : Md} {c0 c1 c2 c3 : Int} {v' : List Int} {z : Int}
theorem seq_dec (hm : m.ok = true) (hv : ∀ a : Int, -1 ≤ vecAt c0 c1 c2 c3 a ∧ vecAt c0 c1 c2 c3 a ≤ 1) (hv' : ∀ a, 0 ≤ intAt [c0, c1, c2, c3] a → intAt v' a = intAt [c0, c1, c2, c3] a) :
  ∀ (f : Nat) (c : Co), Inv m c → Begins (seqG (·.drop 1) (planO m.z) m [c0, c1, c2, c3] z f c) (seqG (·.drop 1) (planO m.z) m v' z f c) ∧
   (0 ≤ (seqG (·.drop 1) (planO m.z) m [c0, c1, c2, c3] z f c).k → 0 ≤ intAt v' (seqG (·.drop 1) (planO m.z) m [c0, c1, c2, c3] z f c).k.toNat →
    (seqG (·.drop 1) (planO m.z) m [c0, c1, c2, c3] z f c).ev.length < (seqG (·.drop 1) (planO m.z) m v' z f c).ev.length ∨ (0 ≤ (seqG (·.drop 1) (planO m.z) m v' z f c).k ∧ (seqG (·.drop 1) (planO m.z) m v' z f c).k ≠ (seqG (·.drop 1) (planO m.z) m [c0, c1, c2, c3] z f c).k))
 | 0, c, _ => ⟨Begins.refl _, fun h => absurd h (by show ¬ 0 ≤ (-1 : Int); omega)⟩
 | f + 1, c, hi => by
  by_cases h : 0 < c.td.length ∧ (evAt c.td 0).t ≤ z
  ·by_cases h150 : 150 ≤ c.ev.length
   ·have e : ∀ v, seqG (·.drop 1) (planO m.z) m v z (f + 1) c = ⟨c.ev, c.em, -1, true⟩ := fun v => by rw [seqG, if_pos h, if_pos h150]
    rw [e, e]
    exact ⟨Begins.refl _, fun h => absurd h (by show ¬ 0 ≤ (-1 : Int); omega)⟩
   ·by_cases hk : 0 ≤ (effC m [c0, c1, c2, c3] c).k
    ·have e : seqG (·.drop 1) (planO m.z) m [c0, c1, c2, c3] z (f + 1) c = ⟨c.ev, c.em, (effC m [c0, c1, c2, c3] c).k, false⟩ := by rw [seqG, if_pos h, if_neg h150, if_pos hk]
     rw [e]
     refine ⟨seq_ext (f + 1) c, fun _ hd => ?_⟩
     by_cases hk' : 0 ≤ (effC m v' c).k
     ·right
      have e' : seqG (·.drop 1) (planO m.z) m v' z (f + 1) c = ⟨c.ev, c.em, (effC m v' c).k, false⟩ := by rw [seqG, if_pos h, if_neg h150, if_pos hk']
      rw [e']
      refine ⟨hk', fun x => ?_⟩
      have h1 := eff_neg (m := m) (v := v') hk'
      have h2 : (effC m v' c).k = (effC m [c0, c1, c2, c3] c).k := x
      have h3 : intAt v' (effC m v' c).k.toNat < 0 := h1
      rw [h2] at h3
      have h4 : 0 ≤ intAt v' (effC m [c0, c1, c2, c3] c).k.toNat := hd
      omega
     ·left
      have e' : seqG (·.drop 1) (planO m.z) m v' z (f + 1) c = seqG (·.drop 1) (planO m.z) m v' z f (nextC (·.drop 1) (planO m.z) m v' c) := by rw [seqG, if_pos h, if_neg h150, if_neg hk']
      rw [e']
      have h1 := (seq_ext (pop := (·.drop 1)) (plan := planO m.z) (m := m) (v := v') (z := z) f (nextC (·.drop 1) (planO m.z) m v' c)).1.length_le
      simp only [nextC, List.length_append, List.length_cons, List.length_nil] at h1
      show c.ev.length < _
      simp only [nextC]
      omega
    ·have hg := (hi.goes h.1 hm hv (by omega)).resolve_left (fun x => hk x.1)
     have hE : effC m v' c = effC m [c0, c1, c2, c3] c := eff_made hv' hk (fun k hr => (asks_in (hi.fit h.1 hm hv) hr).1)
     have hn : nextC (·.drop 1) (planO m.z) m v' c = nextC (·.drop 1) (planO m.z) m [c0, c1, c2, c3] c := by unfold nextC; rw [hE]
     have e : seqG (·.drop 1) (planO m.z) m [c0, c1, c2, c3] z (f + 1) c = seqG (·.drop 1) (planO m.z) m [c0, c1, c2, c3] z f (nextC (·.drop 1) (planO m.z) m [c0, c1, c2, c3] c) := by rw [seqG, if_pos h, if_neg h150, if_neg hk]
     have e' : seqG (·.drop 1) (planO m.z) m v' z (f + 1) c = seqG (·.drop 1) (planO m.z) m v' z f (nextC (·.drop 1) (planO m.z) m [c0, c1, c2, c3] c) := by rw [seqG, if_pos h, if_neg h150, if_neg (by rw [hE]; exact hk), hn]
     rw [e, e']
     exact seq_dec hm hv hv' f _ (hi.next h.1 hm (by omega) hg)
  ·have e : ∀ v, seqG (·.drop 1) (planO m.z) m v z (f + 1) c = ⟨c.ev, c.em, -1, false⟩ := fun v => by rw [seqG, if_neg h]
   rw [e, e]
   exact ⟨Begins.refl _, fun h => absurd h (by show ¬ 0 ≤ (-1 : Int); omega)⟩
end
end Go.Proofs.YtbljfphdghfkfaaGreatDoor

/- sameEvents, where both lists are the same. -/
namespace Go.Proofs.YtbljfphdghfkfaaGreatDoor
open Go.RowKit
set_option maxHeartbeats 4000000 in
theorem sameE_same (x y : Value) (l : List Ev) (w : World) (hl : l.length ≤ 1048577) (hx : IsEvs w x l) (hy : IsEvs w y l) :
  Calls Tryz.prog 57 #[x, y] w fun e w' => e = .returned (.bool true) ∧ Below w.heap.size w w' := by
 obtain ⟨a, cap, rfl, h1, h2, h⟩ := hx
 obtain ⟨a', cap', rfl, h1', h2', h'⟩ := hy
 clear h1 h2 h1' h2'
 by_cases hz : l = []
 ·subst hz
  clear h h'
  go_enter Tryz.func57, Tryz.ntmps57
  go_wp2
  go_loop [5] (fun i => i = .int .i64 0) (fun _ => 0)
  case atStart => rfl
  case round =>
   subst hrel
   go_wp2
   go_ret
   exact ⟨rfl, Below.refl _ _⟩
 ·obtain ⟨b, off, rfl, hb, hc⟩ := h.resolve_left hz
  obtain ⟨b', off', rfl, hb', hc'⟩ := h'.resolve_left hz
  have HC : Hid (∀ i, i < l.length → Ev.In w b (off + i * 7) (evAt l i)) := hc
  have HC' : Hid (∀ i, i < l.length → Ev.In w b' (off' + i * 7) (evAt l i)) := hc'
  clear h h' hz hc hc'
  go_enter Tryz.func57, Tryz.ntmps57
  go_wp2
  go_loopw [5] (fun i wr => ∃ k : Nat, k ≤ l.length ∧ i = .int .i64 k ∧ Below w.heap.size w wr) (fun i _ => l.length - (intOf i).toNat)
  case atStart => exact ⟨0, Nat.zero_le _, rfl, Below.refl _ _⟩
  case round =>
   obtain ⟨k, hk, rfl, hB⟩ := hrel
   have HB : Hid (Below w.heap.size w wr) := hB
   by_cases hlt : k < l.length
   ·obtain ⟨f0, f1, f2, f3, f4, f5, f6⟩ := (HC.out k hlt).below hB hb
    obtain ⟨g0, g1, g2, g3, g4, g5, g6⟩ := (HC'.out k hlt).below hB hb'
    clear hB
    generalize (evAt l k).t = t at f0 g0
    generalize (evAt l k).s = s at f1 g1
    generalize (evAt l k).q = q at f2 g2
    generalize (evAt l k).d = d at f3 g3
    generalize (evAt l k).k = kk at f4 g4
    generalize (evAt l k).v = v at f5 g5
    generalize (evAt l k).g = g at f6 g6
    go_wp2_with fail
    go_region_held3 (fun W => W.cell? ⟨b, off + k * 7, none⟩ = some (.int .i64 t) ∧ W.cell? ⟨b, off + k * 7 + 1, none⟩ = some (.int .i64 s) ∧ W.cell? ⟨b, off + k * 7 + 2, none⟩ = some (.int .i64 q) ∧ W.cell? ⟨b, off + k * 7 + 3, none⟩ = some (.int .i64 d) ∧ W.cell? ⟨b, off + k * 7 + 4, none⟩ = some (.int .i64 kk) ∧ W.cell? ⟨b, off + k * 7 + 5, none⟩ = some (.int .i64 v) ∧ W.cell? ⟨b, off + k * 7 + 6, none⟩ = some (.int .i64 g) ∧ W.cell? ⟨b', off' + k * 7, none⟩ = some (.int .i64 t) ∧ W.cell? ⟨b', off' + k * 7 + 1, none⟩ = some (.int .i64 s) ∧ W.cell? ⟨b', off' + k * 7 + 2, none⟩ = some (.int .i64 q) ∧ W.cell? ⟨b', off' + k * 7 + 3, none⟩ = some (.int .i64 d) ∧ W.cell? ⟨b', off' + k * 7 + 4, none⟩ = some (.int .i64 kk) ∧ W.cell? ⟨b', off' + k * 7 + 5, none⟩ = some (.int .i64 v) ∧ W.cell? ⟨b', off' + k * 7 + 6, none⟩ = some (.int .i64 g)) ((repeat' apply And.intro) <;> go_keep) (fail)
    go_wp2
    go_roundw
    case rel => exact ⟨k + 1, by omega, by go_num, HB.out.drew⟩
    case measure => simp [intOf]; omega
   ·clear hB
    go_wp2
    go_ret
    exact ⟨rfl, HB.out⟩
end Go.Proofs.YtbljfphdghfkfaaGreatDoor

/- Emits: how they are read, held against each other, marked, and found again. -/
namespace Go.Proofs.YtbljfphdghfkfaaGreatDoor
open Go.RowKit
structure XAt (w : World) (b o : Nat) (e : Em) : Prop where
 f0 : w.cell? ⟨b, o, none⟩ = some (.int .i64 e.t)
 f1 : w.cell? ⟨b, o + 1, none⟩ = some (.int .i64 e.l)
 f2 : w.cell? ⟨b, o + 2, none⟩ = some (.int .i64 e.v)
theorem XAt.below {w w' : World} {B b o : Nat} {e : Em} (h : XAt w b o e) (hb : Below B w w') (hlt : b < B) : XAt w' b o e :=
 ⟨(hb.cell hlt).trans h.f0, (hb.cell hlt).trans h.f1, (hb.cell hlt).trans h.f2⟩
def XsAt (w : World) (b off : Nat) (l : List Em) : Prop := b < w.heap.size ∧ ∀ i, i < l.length → XAt w b (off + i * 3) (xAt l i)
def IsX (w : World) (x : Value) (l : List Em) : Prop := ∃ a cap, x = .slice a l.length cap ∧ l.length ≤ cap ∧ cap ≤ maxLen ∧ (l = [] ∨ ∃ b off, a = some ⟨b, off, none⟩ ∧ XsAt w b off l)
theorem XsAt.below {w w' : World} {B b off : Nat} {l : List Em} (h : XsAt w b off l) (hb : Below B w w') (hB : b < B) : XsAt w' b off l :=
 ⟨Nat.lt_of_lt_of_le h.1 hb.size, fun i hi => (h.2 i hi).below hb hB⟩
theorem IsX.below {w w' : World} {x : Value} {l : List Em} (h : IsX w x l) (hb : Below w.heap.size w w') : IsX w' x l := by
 obtain ⟨a, cap, rfl, h1, h2, h⟩ := h
 exact ⟨a, cap, rfl, h1, h2, h.imp id (fun ⟨b, off, e, h⟩ => ⟨b, off, e, h.below hb h.1⟩)⟩
theorem RowF.isX {F : Nat → Prop} {w : World} {x : Value} {l : List Em} (h : RowF F w x l.length 3 (cellsX l)) : IsX w x l := by
 obtain ⟨hl, a, cap, rfl, h1, h2, h⟩ := h
 refine ⟨a, cap, rfl, h1, h2, h.imp List.eq_nil_of_length_eq_zero ?_⟩
 rintro ⟨g, rfl, hF, hg, hc⟩
 refine ⟨g, 0, rfl, hg, fun i hi => ?_⟩
 have hget : ∀ r, r < 3 → w.cell? ⟨g, 0 + i * 3 + r, none⟩ = (xAt l i).cs[r]? := fun r hr => by
  rw [← cellsX_get l i r hi hr, Nat.zero_add]
  exact (hc _ (by omega)).1
 exact ⟨hget 0 (by omega), hget 1 (by omega), hget 2 (by omega)⟩
end Go.Proofs.YtbljfphdghfkfaaGreatDoor

/- sameEmits, where both lists are the same. -/
namespace Go.Proofs.YtbljfphdghfkfaaGreatDoor
open Go.RowKit
set_option maxHeartbeats 4000000 in
theorem sameX_same (x y : Value) (l : List Em) (w : World) (hl : l.length ≤ 1048577) (hx : IsX w x l) (hy : IsX w y l) :
  Calls Tryz.prog 58 #[x, y] w fun e w' => e = .returned (.bool true) ∧ Below w.heap.size w w' := by
 obtain ⟨a, cap, rfl, h1, h2, h⟩ := hx
 obtain ⟨a', cap', rfl, h1', h2', h'⟩ := hy
 clear h1 h2 h1' h2'
 by_cases hz : l = []
 ·subst hz
  clear h h'
  go_enter Tryz.func58, Tryz.ntmps58
  go_wp2
  go_loop [5] (fun i => i = .int .i64 0) (fun _ => 0)
  case atStart => rfl
  case round =>
   subst hrel
   go_wp2
   go_ret
   exact ⟨rfl, Below.refl _ _⟩
 ·obtain ⟨b, off, rfl, hb, hc⟩ := h.resolve_left hz
  obtain ⟨b', off', rfl, hb', hc'⟩ := h'.resolve_left hz
  have HC : Hid (∀ i, i < l.length → XAt w b (off + i * 3) (xAt l i)) := hc
  have HC' : Hid (∀ i, i < l.length → XAt w b' (off' + i * 3) (xAt l i)) := hc'
  clear h h' hz hc hc'
  go_enter Tryz.func58, Tryz.ntmps58
  go_wp2
  go_loopw [5] (fun i wr => ∃ k : Nat, k ≤ l.length ∧ i = .int .i64 k ∧ Below w.heap.size w wr) (fun i _ => l.length - (intOf i).toNat)
  case atStart => exact ⟨0, Nat.zero_le _, rfl, Below.refl _ _⟩
  case round =>
   obtain ⟨k, hk, rfl, hB⟩ := hrel
   have HB : Hid (Below w.heap.size w wr) := hB
   by_cases hlt : k < l.length
   ·obtain ⟨f0, f1, f2⟩ := (HC.out k hlt).below hB hb
    obtain ⟨g0, g1, g2⟩ := (HC'.out k hlt).below hB hb'
    clear hB
    generalize (xAt l k).t = t at f0 g0
    generalize (xAt l k).l = s at f1 g1
    generalize (xAt l k).v = q at f2 g2
    go_wp2_with fail
    go_region_held3 (fun W => W.cell? ⟨b, off + k * 3, none⟩ = some (.int .i64 t) ∧ W.cell? ⟨b, off + k * 3 + 1, none⟩ = some (.int .i64 s) ∧ W.cell? ⟨b, off + k * 3 + 2, none⟩ = some (.int .i64 q) ∧ W.cell? ⟨b', off' + k * 3, none⟩ = some (.int .i64 t) ∧ W.cell? ⟨b', off' + k * 3 + 1, none⟩ = some (.int .i64 s) ∧ W.cell? ⟨b', off' + k * 3 + 2, none⟩ = some (.int .i64 q)) ((repeat' apply And.intro) <;> go_keep) (fail)
    go_wp2
    go_roundw
    case rel => exact ⟨k + 1, by omega, by go_num, HB.out.drew⟩
    case measure => simp [intOf]; omega
   ·clear hB
    go_wp2
    go_ret
    exact ⟨rfl, HB.out⟩
end Go.Proofs.YtbljfphdghfkfaaGreatDoor

/- laws.big, laws.at, laws.begins. -/
namespace Go.Proofs.YtbljfphdghfkfaaGreatDoor
open Go.RowKit
theorem big_any (a : Option Addr) (n cap : Nat) (w : World) : Calls Tryz.prog 16 #[.slice a n cap] w fun e w' => e = .returned (.bool (decide (60000 < (n : Int)))) ∧ w' = w := by
 go_enter Tryz.func16, Tryz.ntmps16
 go_wp2
 go_ret
 exact ⟨rfl, rfl⟩
set_option maxHeartbeats 2000000 in
theorem at_one (a : Option Addr) (n cap : Nat) (w : World) (hC : CodeIn w w.heap.size a n) (hn : n ≤ 281474976710656) : Calls Tryz.prog 23 #[.slice a n cap, .int .i64 1] w fun e w' => (∃ x : Int, e = .returned (.int .i64 x) ∧ 0 ≤ x ∧ x ≤ 255) ∧ w' = w := by
 rcases hC with rfl | ⟨b, off, rfl, hb, hc⟩
 ·go_enter Tryz.func23, Tryz.ntmps23
  go_wp2
  go_ret
  exact ⟨⟨0, rfl, by omega, by omega⟩, rfl⟩
 ·by_cases h0 : n = 0
  ·subst h0
   go_enter Tryz.func23, Tryz.ntmps23
   go_wp2
   go_ret
   exact ⟨⟨0, rfl, by omega, by omega⟩, rfl⟩
  ·by_cases h1 : n = 1
   ·subst h1
    obtain ⟨z, hz, f0⟩ := hc 0 (by omega)
    rw [Nat.add_zero] at f0
    clear hc
    go_enter Tryz.func23, Tryz.ntmps23
    go_wp2
    go_ret
    exact ⟨⟨_, rfl, by omega, by omega⟩, rfl⟩
   ·obtain ⟨z, hz, f0⟩ := hc 1 (by omega)
    have hm : (1 : Int) % (n : Int) = 1 := Int.emod_eq_of_lt (by omega) (by omega)
    have hp : ¬ (n : Int) = 0 := by omega
    have hp2 : (1 : Int) < (n : Int) := by omega
    clear hc
    go_enter Tryz.func23, Tryz.ntmps23
    go_wp2
    go_ret
    exact ⟨⟨_, rfl, by omega, by omega⟩, rfl⟩
end Go.Proofs.YtbljfphdghfkfaaGreatDoor

