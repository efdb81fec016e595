/- Emit and draw. -/
import Derived.Test.YtbljfphdghfkfaaGreatDoorModelsCardLESend
namespace Go.Proofs.YtbljfphdghfkfaaGreatDoor
open Go.RowKit
theorem regOf {w : World} {B g cap : Nat} {t : Tn} (h : w.ownsRow B 3 1 (vReg g cap) 2 [.int .i64 t.a, .int .i64 t.b]) {i : Nat} (hi : i ≤ 1) : w.cell? ⟨g, i, none⟩ = some (.int .i64 (t.reg i)) := by
 match i, hi with
 | 0, _ => exact h.cellAt 0 (by omega)
 | 1, _ => exact h.cellAt 1 (by omega)
set_option maxRecDepth 100000 in
set_option maxHeartbeats 4000000 in
theorem emit_any (B P : Nat) (n s z : Int) (vi vh vs : Value) (c0 c1 c2 c3 : Int) (e : Ev) (t : Tn) (k : Int) (g cap : Nat) (us ux : Value) (o : O) (j : Nat) (gt : GoodT t j) (hj : j ≤ 8) (ha0 : 0 ≤ o.a) (ha1 : o.a ≤ 1) (w : World) (h : Eff B w P 175 (preT n s z vi vh vs c0 c1 c2 c3 e) t k g cap us ux) :
  Calls Tryz.prog 111 #[.pointer (some ⟨P, 0, none⟩), .agg #[.int .i64 o.c, .int .i64 o.a, .int .i64 o.b, .int .i64 o.k]] w (MPost B P w (preT n s z vi vh vs c0 c1 c2 c3 e) { t with x := t.x ++ [⟨e.t, e.d, t.reg o.a⟩] } k 0) := by
 obtain ⟨hBw, hPw⟩ := h.le
 obtain ⟨hgB, hgw⟩ := h.glo
 have hne := h.ne
 obtain ⟨W0, hW0⟩ : ∃ W0, w.alloc (.cells #[.int .i64 o.c, .int .i64 o.a, .int .i64 o.b, .int .i64 o.k] 39) = W0 := ⟨_, rfl⟩
 have HE : Hid (Eff B W0 P 175 (preT n s z vi vh vs c0 c1 c2 c3 e) t k g cap us ux) := hW0 ▸ h.alloc _
 have HB : Hid (Below B w W0) := hW0 ▸ (Below.refl B w).alloc hBw _
 have HK : Hid (Keeps w W0) := hW0 ▸ keeps_alloc w _
 have HP : Hid (Bk W0 w.heap.size 39 #[.int .i64 o.c, .int .i64 o.a, .int .i64 o.b, .int .i64 o.k]) := hW0 ▸ Bk.new w _ _
 have hsz : w.heap.size < W0.heap.size := HP.out.lt
 have p1 : W0.cell? ⟨w.heap.size, 1, none⟩ = some (.int .i64 o.a) := HP.out.cell (i := 1) rfl
 have p2 : W0.cell? ⟨w.heap.size, 2, none⟩ = some (.int .i64 o.b) := HP.out.cell (i := 2) rfl
 have p3 : W0.cell? ⟨w.heap.size, 3, none⟩ = some (.int .i64 o.k) := HP.out.cell (i := 3) rfl
 clear h
 obtain ⟨i, hi⟩ : ∃ i : Nat, o.a = (i : Int) := ⟨(o.a).toNat, by omega⟩
 have hi1 : i ≤ 1 := by omega
 obtain ⟨hr0, hr1⟩ := gt.reg (i : Int)
 rw [hi] at p1 hW0 ⊢
 have hi2 : (i : Int) < 2 := by omega
 have hS : W0.cell? ⟨P, 21, none⟩ = some ux := HE.out.blk.cell (i := 21) rfl
 have hlen : t.x.length ≤ 8 := by have := gt.x1; omega
 have HP : Hid (Bk W0 w.heap.size 39 #[.int .i64 o.c, .int .i64 i, .int .i64 o.b, .int .i64 o.k]) := by have h9 := HP.out; rw [hi] at h9; exact h9
 have HS0 : Hid (W0.drew.cell? ⟨w.heap.size, 1, none⟩ = some (.int .i64 i) ∧ W0.drew.cell? ⟨w.heap.size, 2, none⟩ = some (.int .i64 o.b) ∧ W0.drew.cell? ⟨w.heap.size, 3, none⟩ = some (.int .i64 o.k) ∧ W0.drew.cell? ⟨P, 10, none⟩ = some (.int .i64 e.t) ∧ W0.drew.cell? ⟨P, 13, none⟩ = some (.int .i64 e.d) ∧ W0.drew.cell? ⟨P, 17, none⟩ = some (vReg g cap) ∧ W0.drew.cell? ⟨g, i, none⟩ = some (.int .i64 (t.reg i))) := ⟨(HP.out.drew).cell (i := 1) rfl, (HP.out.drew).cell (i := 2) rfl, (HP.out.drew).cell (i := 3) rfl, (HE.out.drew).blk.cell (i := 10) rfl, (HE.out.drew).blk.cell (i := 13) rfl, (HE.out.drew).blk.cell (i := 17) rfl, (HE.out.drew).reg i hi1⟩
 have HS1 : Hid ((W0.drew.alloc (.cells #[.int .i64 e.t, .int .i64 e.d, .int .i64 (t.reg i)] 108)).cell? ⟨w.heap.size, 1, none⟩ = some (.int .i64 i) ∧ (W0.drew.alloc (.cells #[.int .i64 e.t, .int .i64 e.d, .int .i64 (t.reg i)] 108)).cell? ⟨w.heap.size, 2, none⟩ = some (.int .i64 o.b) ∧ (W0.drew.alloc (.cells #[.int .i64 e.t, .int .i64 e.d, .int .i64 (t.reg i)] 108)).cell? ⟨w.heap.size, 3, none⟩ = some (.int .i64 o.k) ∧ (W0.drew.alloc (.cells #[.int .i64 e.t, .int .i64 e.d, .int .i64 (t.reg i)] 108)).cell? ⟨P, 10, none⟩ = some (.int .i64 e.t) ∧ (W0.drew.alloc (.cells #[.int .i64 e.t, .int .i64 e.d, .int .i64 (t.reg i)] 108)).cell? ⟨P, 13, none⟩ = some (.int .i64 e.d) ∧ (W0.drew.alloc (.cells #[.int .i64 e.t, .int .i64 e.d, .int .i64 (t.reg i)] 108)).cell? ⟨P, 17, none⟩ = some (vReg g cap) ∧ (W0.drew.alloc (.cells #[.int .i64 e.t, .int .i64 e.d, .int .i64 (t.reg i)] 108)).cell? ⟨g, i, none⟩ = some (.int .i64 (t.reg i))) := ⟨(HP.out.drew.alloc (.cells #[.int .i64 e.t, .int .i64 e.d, .int .i64 (t.reg i)] 108)).cell (i := 1) rfl, (HP.out.drew.alloc (.cells #[.int .i64 e.t, .int .i64 e.d, .int .i64 (t.reg i)] 108)).cell (i := 2) rfl, (HP.out.drew.alloc (.cells #[.int .i64 e.t, .int .i64 e.d, .int .i64 (t.reg i)] 108)).cell (i := 3) rfl, (HE.out.drew.alloc (.cells #[.int .i64 e.t, .int .i64 e.d, .int .i64 (t.reg i)] 108)).blk.cell (i := 10) rfl, (HE.out.drew.alloc (.cells #[.int .i64 e.t, .int .i64 e.d, .int .i64 (t.reg i)] 108)).blk.cell (i := 13) rfl, (HE.out.drew.alloc (.cells #[.int .i64 e.t, .int .i64 e.d, .int .i64 (t.reg i)] 108)).blk.cell (i := 17) rfl, (HE.out.drew.alloc (.cells #[.int .i64 e.t, .int .i64 e.d, .int .i64 (t.reg i)] 108)).reg i hi1⟩
 have HE1 : Hid (Eff B (W0.drew.alloc (.cells #[.int .i64 e.t, .int .i64 e.d, .int .i64 (t.reg i)] 108)) P 175 (preT n s z vi vh vs c0 c1 c2 c3 e) t k g cap us ux) := HE.out.drew.alloc _
 have HP1 : Hid (Bk (W0.drew.alloc (.cells #[.int .i64 e.t, .int .i64 e.d, .int .i64 (t.reg i)] 108)) w.heap.size 39 #[.int .i64 o.c, .int .i64 i, .int .i64 o.b, .int .i64 o.k]) := HP.out.drew.alloc _
 have hSb : (W0.alloc (.cells #[.int .i64 e.t, .int .i64 e.d, .int .i64 (t.reg i)] 108)).cell? ⟨P, 21, none⟩ = some ux := HE1.out.blk.cell (i := 21) rfl
 have hsz1 : B ≤ (W0.drew.alloc (.cells #[.int .i64 e.t, .int .i64 e.d, .int .i64 (t.reg i)] 108)).heap.size := by have := HE1.out.le; omega
 obtain ⟨i0, hi0, hz0, hz1, hz2⟩ := info_parts infoEm
 have hoP : w.heap.size ≠ P := by omega
 have hszd : B ≤ W0.drew.heap.size := by show B ≤ W0.heap.size; omega
 go_enter Tryz.func111, Tryz.ntmps111
 go_wp2
 clear hW0 p1 p2 p3
 refine wp_region_held_drew (S := fun W => W.cell? ⟨w.heap.size, 1, none⟩ = some (.int .i64 i) ∧ W.cell? ⟨w.heap.size, 2, none⟩ = some (.int .i64 o.b) ∧ W.cell? ⟨w.heap.size, 3, none⟩ = some (.int .i64 o.k) ∧ W.cell? ⟨P, 10, none⟩ = some (.int .i64 e.t) ∧ W.cell? ⟨P, 13, none⟩ = some (.int .i64 e.d) ∧ W.cell? ⟨P, 17, none⟩ = some (vReg g cap) ∧ W.cell? ⟨g, i, none⟩ = some (.int .i64 (t.reg i))) (by kernel_rfl) HS0.out (fun hHeld => ?_)
 refine wpAnyH_take (i := 0) (oi := { dst := some 5, op := Op.move (Operand.tmp 0), type := 173, pos := _, after := _, guard := none }) (v := .pointer (some ⟨P, 0, none⟩)) rfl (by kernel_rfl) (by kernel_rfl) (by kernel_rfl) (fun _ _ _ h => h) (Or.inl ⟨by rfl, ?_⟩) (by assumption) ?_
 ·intro wX hSw
  try dsimp only at hSw
  go_simp
 try simp only [Act.put, List.setIfInBounds_toArray, List.set_cons_zero, List.set_cons_succ]
 refine wpAnyH_take (i := 1) (oi := { dst := some 6, op := Op.move (Operand.tmp 0), type := 173, pos := _, after := _, guard := none }) (v := .pointer (some ⟨P, 0, none⟩)) rfl (by kernel_rfl) (by kernel_rfl) (by kernel_rfl) (fun _ _ _ h => h) (Or.inl ⟨by rfl, ?_⟩) (by assumption) ?_
 ·intro wX hSw
  try dsimp only at hSw
  go_simp
 try simp only [Act.put, List.setIfInBounds_toArray, List.set_cons_zero, List.set_cons_succ]
 refine wpAnyH_take (i := 2) (oi := { dst := some 7, op := Op.nilCheck (Operand.tmp 6), type := 0, pos := _, after := _, guard := none }) (v := .pointer (some ⟨P, 0, none⟩)) rfl (by kernel_rfl) (by kernel_rfl) (by kernel_rfl) (fun _ _ _ h => h) (Or.inl ⟨by rfl, ?_⟩) (by assumption) ?_
 ·intro wX hSw
  try dsimp only at hSw
  go_simp
 try simp only [Act.put, List.setIfInBounds_toArray, List.set_cons_zero, List.set_cons_succ]
 refine wpAnyH_take (i := 3) (oi := { dst := some 8, op := Op.fieldAddr 175 (Operand.tmp 7) 3, type := 0, pos := _, after := _, guard := none }) (v := .pointer (some ⟨P, 17, none⟩)) rfl (by kernel_rfl) (by kernel_rfl) (by kernel_rfl) (fun _ _ _ h => h) (Or.inl ⟨by rfl, ?_⟩) (by assumption) ?_
 ·intro wX hSw
  try dsimp only at hSw
  go_simp
 try simp only [Act.put, List.setIfInBounds_toArray, List.set_cons_zero, List.set_cons_succ]
 refine wpAnyH_take (i := 4) (oi := { dst := some 9, op := Op.fieldAddr 154 (Operand.tmp 8) 2, type := 0, pos := _, after := _, guard := none }) (v := .pointer (some ⟨P, 21, none⟩)) rfl (by kernel_rfl) (by kernel_rfl) (by kernel_rfl) (fun _ _ _ h => h) (Or.inl ⟨by rfl, ?_⟩) (by assumption) ?_
 ·intro wX hSw
  try dsimp only at hSw
  go_simp
 try simp only [Act.put, List.setIfInBounds_toArray, List.set_cons_zero, List.set_cons_succ]
 refine wpAnyH_take (i := 6) (oi := { dst := some 11, op := Op.move (Operand.tmp 0), type := 173, pos := _, after := _, guard := none }) (v := .pointer (some ⟨P, 0, none⟩)) rfl (by kernel_rfl) (by kernel_rfl) (by kernel_rfl) (fun _ _ _ h => h) (Or.inl ⟨by rfl, ?_⟩) (by assumption) ?_
 ·intro wX hSw
  try dsimp only at hSw
  go_simp
 try simp only [Act.put, List.setIfInBounds_toArray, List.set_cons_zero, List.set_cons_succ]
 refine wpAnyH_take (i := 7) (oi := { dst := some 12, op := Op.nilCheck (Operand.tmp 11), type := 0, pos := _, after := _, guard := none }) (v := .pointer (some ⟨P, 0, none⟩)) rfl (by kernel_rfl) (by kernel_rfl) (by kernel_rfl) (fun _ _ _ h => h) (Or.inl ⟨by rfl, ?_⟩) (by assumption) ?_
 ·intro wX hSw
  try dsimp only at hSw
  go_simp
 try simp only [Act.put, List.setIfInBounds_toArray, List.set_cons_zero, List.set_cons_succ]
 refine wpAnyH_take (i := 8) (oi := { dst := some 13, op := Op.fieldAddr 175 (Operand.tmp 12) 2, type := 0, pos := _, after := _, guard := none }) (v := .pointer (some ⟨P, 10, none⟩)) rfl (by kernel_rfl) (by kernel_rfl) (by kernel_rfl) (fun _ _ _ h => h) (Or.inl ⟨by rfl, ?_⟩) (by assumption) ?_
 ·intro wX hSw
  try dsimp only at hSw
  go_simp
 try simp only [Act.put, List.setIfInBounds_toArray, List.set_cons_zero, List.set_cons_succ]
 refine wpAnyH_take (i := 9) (oi := { dst := some 14, op := Op.fieldAddr 53 (Operand.tmp 13) 0, type := 0, pos := _, after := _, guard := none }) (v := .pointer (some ⟨P, 10, none⟩)) rfl (by kernel_rfl) (by kernel_rfl) (by kernel_rfl) (fun _ _ _ h => h) (Or.inl ⟨by rfl, ?_⟩) (by assumption) ?_
 ·intro wX hSw
  try dsimp only at hSw
  go_simp
 try simp only [Act.put, List.setIfInBounds_toArray, List.set_cons_zero, List.set_cons_succ]
 refine wpAnyH_take (i := 10) (oi := { dst := some 15, op := Op.load 3 (Operand.tmp 14), type := 3, pos := _, after := _, guard := none }) (v := .int .i64 e.t) rfl (by kernel_rfl) (by kernel_rfl) (by kernel_rfl) (fun _ _ _ h => h) (Or.inl ⟨by rfl, ?_⟩) (by assumption) ?_
 ·intro wX hSw
  try dsimp only at hSw
  go_simp
 try simp only [Act.put, List.setIfInBounds_toArray, List.set_cons_zero, List.set_cons_succ]
 refine wpAnyH_take (i := 11) (oi := { dst := some 16, op := Op.move (Operand.tmp 0), type := 173, pos := _, after := _, guard := none }) (v := .pointer (some ⟨P, 0, none⟩)) rfl (by kernel_rfl) (by kernel_rfl) (by kernel_rfl) (fun _ _ _ h => h) (Or.inl ⟨by rfl, ?_⟩) (by assumption) ?_
 ·intro wX hSw
  try dsimp only at hSw
  go_simp
 try simp only [Act.put, List.setIfInBounds_toArray, List.set_cons_zero, List.set_cons_succ]
 refine wpAnyH_take (i := 12) (oi := { dst := some 17, op := Op.nilCheck (Operand.tmp 16), type := 0, pos := _, after := _, guard := none }) (v := .pointer (some ⟨P, 0, none⟩)) rfl (by kernel_rfl) (by kernel_rfl) (by kernel_rfl) (fun _ _ _ h => h) (Or.inl ⟨by rfl, ?_⟩) (by assumption) ?_
 ·intro wX hSw
  try dsimp only at hSw
  go_simp
 try simp only [Act.put, List.setIfInBounds_toArray, List.set_cons_zero, List.set_cons_succ]
 refine wpAnyH_take (i := 13) (oi := { dst := some 18, op := Op.fieldAddr 175 (Operand.tmp 17) 2, type := 0, pos := _, after := _, guard := none }) (v := .pointer (some ⟨P, 10, none⟩)) rfl (by kernel_rfl) (by kernel_rfl) (by kernel_rfl) (fun _ _ _ h => h) (Or.inl ⟨by rfl, ?_⟩) (by assumption) ?_
 ·intro wX hSw
  try dsimp only at hSw
  go_simp
 try simp only [Act.put, List.setIfInBounds_toArray, List.set_cons_zero, List.set_cons_succ]
 refine wpAnyH_take (i := 14) (oi := { dst := some 19, op := Op.fieldAddr 53 (Operand.tmp 18) 3, type := 0, pos := _, after := _, guard := none }) (v := .pointer (some ⟨P, 13, none⟩)) rfl (by kernel_rfl) (by kernel_rfl) (by kernel_rfl) (fun _ _ _ h => h) (Or.inl ⟨by rfl, ?_⟩) (by assumption) ?_
 ·intro wX hSw
  try dsimp only at hSw
  go_simp
 try simp only [Act.put, List.setIfInBounds_toArray, List.set_cons_zero, List.set_cons_succ]
 refine wpAnyH_take (i := 15) (oi := { dst := some 20, op := Op.load 3 (Operand.tmp 19), type := 3, pos := _, after := _, guard := none }) (v := .int .i64 e.d) rfl (by kernel_rfl) (by kernel_rfl) (by kernel_rfl) (fun _ _ _ h => h) (Or.inl ⟨by rfl, ?_⟩) (by assumption) ?_
 ·intro wX hSw
  try dsimp only at hSw
  go_simp
 try simp only [Act.put, List.setIfInBounds_toArray, List.set_cons_zero, List.set_cons_succ]
 refine wpAnyH_take (i := 16) (oi := { dst := some 21, op := Op.move (Operand.tmp 0), type := 173, pos := _, after := _, guard := none }) (v := .pointer (some ⟨P, 0, none⟩)) rfl (by kernel_rfl) (by kernel_rfl) (by kernel_rfl) (fun _ _ _ h => h) (Or.inl ⟨by rfl, ?_⟩) (by assumption) ?_
 ·intro wX hSw
  try dsimp only at hSw
  go_simp
 try simp only [Act.put, List.setIfInBounds_toArray, List.set_cons_zero, List.set_cons_succ]
 refine wpAnyH_take (i := 17) (oi := { dst := some 22, op := Op.nilCheck (Operand.tmp 21), type := 0, pos := _, after := _, guard := none }) (v := .pointer (some ⟨P, 0, none⟩)) rfl (by kernel_rfl) (by kernel_rfl) (by kernel_rfl) (fun _ _ _ h => h) (Or.inl ⟨by rfl, ?_⟩) (by assumption) ?_
 ·intro wX hSw
  try dsimp only at hSw
  go_simp
 try simp only [Act.put, List.setIfInBounds_toArray, List.set_cons_zero, List.set_cons_succ]
 refine wpAnyH_take (i := 18) (oi := { dst := some 23, op := Op.fieldAddr 175 (Operand.tmp 22) 3, type := 0, pos := _, after := _, guard := none }) (v := .pointer (some ⟨P, 17, none⟩)) rfl (by kernel_rfl) (by kernel_rfl) (by kernel_rfl) (fun _ _ _ h => h) (Or.inl ⟨by rfl, ?_⟩) (by assumption) ?_
 ·intro wX hSw
  try dsimp only at hSw
  go_simp
 try simp only [Act.put, List.setIfInBounds_toArray, List.set_cons_zero, List.set_cons_succ]
 refine wpAnyH_take (i := 19) (oi := { dst := some 24, op := Op.fieldAddr 154 (Operand.tmp 23) 0, type := 0, pos := _, after := _, guard := none }) (v := .pointer (some ⟨P, 17, none⟩)) rfl (by kernel_rfl) (by kernel_rfl) (by kernel_rfl) (fun _ _ _ h => h) (Or.inl ⟨by rfl, ?_⟩) (by assumption) ?_
 ·intro wX hSw
  try dsimp only at hSw
  go_simp
 try simp only [Act.put, List.setIfInBounds_toArray, List.set_cons_zero, List.set_cons_succ]
 refine wpAnyH_take (i := 20) (oi := { dst := some 25, op := Op.fieldAddr 96 (Operand.tmp 24) 0, type := 0, pos := _, after := _, guard := none }) (v := .pointer (some ⟨P, 17, none⟩)) rfl (by kernel_rfl) (by kernel_rfl) (by kernel_rfl) (fun _ _ _ h => h) (Or.inl ⟨by rfl, ?_⟩) (by assumption) ?_
 ·intro wX hSw
  try dsimp only at hSw
  go_simp
 try simp only [Act.put, List.setIfInBounds_toArray, List.set_cons_zero, List.set_cons_succ]
 refine wpAnyH_take (i := 21) (oi := { dst := some 26, op := Op.load 23 (Operand.tmp 25), type := 23, pos := _, after := _, guard := none }) (v := vReg g cap) rfl (by kernel_rfl) (by kernel_rfl) (by kernel_rfl) (fun _ _ _ h => h) (Or.inl ⟨by rfl, ?_⟩) (by assumption) ?_
 ·intro wX hSw
  try dsimp only at hSw
  go_simp
 try simp only [Act.put, List.setIfInBounds_toArray, List.set_cons_zero, List.set_cons_succ]
 refine wpAnyH_take (i := 22) (oi := { dst := some 27, op := Op.fieldAddr 39 (Operand.tmp 3) 1, type := 0, pos := _, after := _, guard := none }) (v := .pointer (some ⟨w.heap.size, 1, none⟩)) rfl (by kernel_rfl) (by kernel_rfl) (by kernel_rfl) (fun _ _ _ h => h) (Or.inl ⟨by rfl, ?_⟩) (by assumption) ?_
 ·intro wX hSw
  try dsimp only at hSw
  go_simp
 try simp only [Act.put, List.setIfInBounds_toArray, List.set_cons_zero, List.set_cons_succ]
 refine wpAnyH_take (i := 23) (oi := { dst := some 28, op := Op.load 3 (Operand.tmp 27), type := 3, pos := _, after := _, guard := none }) (v := .int .i64 i) rfl (by kernel_rfl) (by kernel_rfl) (by kernel_rfl) (fun _ _ _ h => h) (Or.inl ⟨by rfl, ?_⟩) (by assumption) ?_
 ·intro wX hSw
  try dsimp only at hSw
  go_simp
 try simp only [Act.put, List.setIfInBounds_toArray, List.set_cons_zero, List.set_cons_succ]
 refine wpAnyH_take (i := 24) (oi := { dst := some 29, op := Op.indexAddr 23 (Operand.tmp 26) (Operand.tmp 28), type := 0, pos := _, after := _, guard := none }) (v := .pointer (some ⟨g, i, none⟩)) rfl (by kernel_rfl) (by kernel_rfl) (by kernel_rfl) (fun _ _ _ h => h) (Or.inl ⟨by rfl, ?_⟩) (by assumption) ?_
 ·intro wX hSw
  try dsimp only at hSw
  go_simp
 try simp only [Act.put, List.setIfInBounds_toArray, List.set_cons_zero, List.set_cons_succ]
 refine wpAnyH_take (i := 25) (oi := { dst := some 30, op := Op.load 3 (Operand.tmp 29), type := 3, pos := _, after := _, guard := none }) (v := .int .i64 (t.reg i)) rfl (by kernel_rfl) (by kernel_rfl) (by kernel_rfl) (fun _ _ _ h => h) (Or.inl ⟨by rfl, ?_⟩) (by assumption) ?_
 ·intro wX hSw
  try dsimp only at hSw
  go_simp
 try simp only [Act.put, List.setIfInBounds_toArray, List.set_cons_zero, List.set_cons_succ]
 refine wpAnyH_take (i := 26) (oi := { dst := some 31, op := Op.build 108 #[(0, Operand.tmp 15), (1, Operand.tmp 20), (2, Operand.tmp 30)], type := 108, pos := _, after := _, guard := none }) (v := .agg #[.int .i64 e.t, .int .i64 e.d, .int .i64 (t.reg i)]) rfl (by kernel_rfl) (by kernel_rfl) (by kernel_rfl) (fun _ _ _ h => h) (Or.inl ⟨by rfl, ?_⟩) (by assumption) ?_
 ·intro wX hSw
  try dsimp only at hSw
  go_simp
 try simp only [Act.put, List.setIfInBounds_toArray, List.set_cons_zero, List.set_cons_succ]
 refine wpAnyH_ready (rs := [5, 27]) (by kernel_rfl) (by simp) ?_
 refine AllReadyH.cons (o := { dst := some 10, op := Op.load 46 (Operand.tmp 9), type := 46, pos := _, after := _, guard := none }) rfl (fun K hK => ?_) (AllReadyH.cons (o := { dst := some 32, op := Op.buildSlice 46 1 #[(0, Operand.tmp 31)], type := 46, pos := _, after := _, guard := none }) rfl (fun K hK => ?_) AllReadyH.nil)
 ·go_simp
  refine hK.out _ _ HS0.out (fun hHeld => ?_)
  clear hK K
  try simp only [Act.put, List.setIfInBounds_toArray, List.set_cons_zero, List.set_cons_succ]
  refine wpAnyH_ready (rs := [27]) (by kernel_rfl) (by simp) ?_
  refine AllReadyH.cons (o := { dst := some 32, op := Op.buildSlice 46 1 #[(0, Operand.tmp 31)], type := 46, pos := _, after := _, guard := none }) rfl (fun K hK => ?_) AllReadyH.nil
  go_simp
  refine hK.out _ _ HS1.out (fun hHeld => ?_)
  clear hK K
  try simp only [Act.put, List.setIfInBounds_toArray, List.set_cons_zero, List.set_cons_succ]
  refine wpAnyH_ready (rs := [28]) (by kernel_rfl) (by simp) ?_
  refine AllReadyH.cons (o := { dst := some 33, op := Op.call { callee := Callee.builtin Builtin.append, args := #[Operand.tmp 10, Operand.tmp 32], argTypes := #[46, 46] }, type := 46, pos := _, after := _, guard := none }) rfl (fun K hK => ?_) AllReadyH.nil
  refine step_append_own (w := W0.drew.alloc (.cells #[.int .i64 e.t, .int .i64 e.d, .int .i64 (t.reg i)] 108)) rfl (.tmp 10) (.tmp 32) 46 rfl B 108 i0 (.agg #[.int .i64 0, .int .i64 0, .int .i64 0]) 3 24 Tryz.underlying46 hi0 hz0 hz1 hz2 rfl (by decide) ux t.x.length (cellsX t.x) rfl HE1.out.x ⟨W0.heap.size, 0, none⟩ 1 1 ((⟨e.t, e.d, t.reg i⟩ : Em).cs) rfl rfl (at_newX W0.drew (⟨e.t, e.d, t.reg i⟩ : Em)) (em_ones (⟨e.t, e.d, t.reg i⟩ : Em)) (by unfold maxLen; omega) (by omega) hsz1 ?_
  intro u3 w3 hown3 hgrow3
  obtain ⟨a3, cq3, hv3⟩ := own_slice hown3
  subst hv3
  have hb3 := HE1.out.blk.grown hgrow3 (HE1.out.blk.off HE1.out.x HE1.out.ty.2.2)
  have kS : w3.cell? ⟨P, 21, none⟩ = some ux := hb3.cell (i := 21) rfl
  have fS : w3.frozen? ⟨P, 21, none⟩ = false := hb3.free 21
  have hr3 := HE1.out.r.kept hgrow3 (own_apart HE1.out.r HE1.out.x (by decide))
  have hP3 := HP1.out.grown hgrow3 (HP1.out.off HE1.out.x (by decide))
  have HS3 : Hid (w3.cell? ⟨w.heap.size, 1, none⟩ = some (.int .i64 i) ∧ w3.cell? ⟨w.heap.size, 2, none⟩ = some (.int .i64 o.b) ∧ w3.cell? ⟨w.heap.size, 3, none⟩ = some (.int .i64 o.k) ∧ w3.cell? ⟨P, 10, none⟩ = some (.int .i64 e.t) ∧ w3.cell? ⟨P, 13, none⟩ = some (.int .i64 e.d) ∧ w3.cell? ⟨P, 17, none⟩ = some (vReg g cap) ∧ w3.cell? ⟨g, i, none⟩ = some (.int .i64 (t.reg i))) := ⟨hP3.cell (i := 1) rfl, hP3.cell (i := 2) rfl, hP3.cell (i := 3) rfl, hb3.cell (i := 10) rfl, hb3.cell (i := 13) rfl, hb3.cell (i := 17) rfl, regOf hr3 hi1⟩
  have HE4 : Hid (Eff B (w3.setCell ⟨P, 21, none⟩ (.slice a3 (t.x.length + 1) cq3)) P 175 (preT n s z vi vh vs c0 c1 c2 c3 e) { t with x := t.x ++ [(⟨e.t, e.d, t.reg i⟩ : Em)] } k g cap us (.slice a3 (t.x.length + 1) cq3)) := HE1.out.told hown3 hgrow3
  have HE4x : Keeps w3 (w3.setCell ⟨P, 21, none⟩ (.slice a3 (t.x.length + 1) cq3)) := keeps_at hb3 21 _
  have HS4 : Hid ((w3.setCell ⟨P, 21, none⟩ (.slice a3 (t.x.length + 1) cq3)).cell? ⟨w.heap.size, 1, none⟩ = some (.int .i64 i) ∧ (w3.setCell ⟨P, 21, none⟩ (.slice a3 (t.x.length + 1) cq3)).cell? ⟨w.heap.size, 2, none⟩ = some (.int .i64 o.b) ∧ (w3.setCell ⟨P, 21, none⟩ (.slice a3 (t.x.length + 1) cq3)).cell? ⟨w.heap.size, 3, none⟩ = some (.int .i64 o.k) ∧ (w3.setCell ⟨P, 21, none⟩ (.slice a3 (t.x.length + 1) cq3)).cell? ⟨P, 10, none⟩ = some (.int .i64 e.t) ∧ (w3.setCell ⟨P, 21, none⟩ (.slice a3 (t.x.length + 1) cq3)).cell? ⟨P, 13, none⟩ = some (.int .i64 e.d) ∧ (w3.setCell ⟨P, 21, none⟩ (.slice a3 (t.x.length + 1) cq3)).cell? ⟨P, 17, none⟩ = some (vReg g cap) ∧ (w3.setCell ⟨P, 21, none⟩ (.slice a3 (t.x.length + 1) cq3)).cell? ⟨g, i, none⟩ = some (.int .i64 (t.reg i))) := ⟨(hP3.other 21 _ hoP).cell (i := 1) rfl, (hP3.other 21 _ hoP).cell (i := 2) rfl, (hP3.other 21 _ hoP).cell (i := 3) rfl, HE4.out.blk.cell (i := 10) rfl, HE4.out.blk.cell (i := 13) rfl, HE4.out.blk.cell (i := 17) rfl, (HE4.out).reg i hi1⟩
  have HB4 : Hid (Below B w (w3.setCell ⟨P, 21, none⟩ (.slice a3 (t.x.length + 1) cq3))) := ((HB.out.drew.alloc hszd _).grown hgrow3 hsz1 (fun k e => row_ge HE1.out.x e)).setCell (p := ⟨P, 21, none⟩) HE1.out.lo _
  have HK4 : Hid (Keeps w (w3.setCell ⟨P, 21, none⟩ (.slice a3 (t.x.length + 1) cq3))) := ((HK.out.trans (keeps_drew W0)).trans (keeps_alloc W0.drew (.cells #[.int .i64 e.t, .int .i64 e.d, .int .i64 (t.reg i)] 108))).trans ((keeps_told HE1.out.x hgrow3).trans (fun K T vs hT hb => (HE4x K T vs hT hb)))
  refine hK.out _ _ HS3.out (fun hHeld => ?_)
  clear hK K
  try simp only [Act.put, List.setIfInBounds_toArray, List.set_cons_zero, List.set_cons_succ]
  refine wpAnyH_take (i := 29) (oi := { dst := some 34, op := Op.nilCheck (Operand.tmp 5), type := 0, pos := _, after := _, guard := none }) (v := .pointer (some ⟨P, 0, none⟩)) rfl (by kernel_rfl) (by kernel_rfl) (by kernel_rfl) (fun _ _ _ h => h) (Or.inl ⟨by rfl, ?_⟩) (by assumption) ?_
  ·intro wX hSw
   try dsimp only at hSw
   go_simp
  try simp only [Act.put, List.setIfInBounds_toArray, List.set_cons_zero, List.set_cons_succ]
  refine wpAnyH_take (i := 30) (oi := { dst := some 35, op := Op.fieldAddr 175 (Operand.tmp 34) 3, type := 0, pos := _, after := _, guard := none }) (v := .pointer (some ⟨P, 17, none⟩)) rfl (by kernel_rfl) (by kernel_rfl) (by kernel_rfl) (fun _ _ _ h => h) (Or.inl ⟨by rfl, ?_⟩) (by assumption) ?_
  ·intro wX hSw
   try dsimp only at hSw
   go_simp
  try simp only [Act.put, List.setIfInBounds_toArray, List.set_cons_zero, List.set_cons_succ]
  refine wpAnyH_take (i := 31) (oi := { dst := some 36, op := Op.fieldAddr 154 (Operand.tmp 35) 2, type := 0, pos := _, after := _, guard := none }) (v := .pointer (some ⟨P, 21, none⟩)) rfl (by kernel_rfl) (by kernel_rfl) (by kernel_rfl) (fun _ _ _ h => h) (Or.inl ⟨by rfl, ?_⟩) (by assumption) ?_
  ·intro wX hSw
   try dsimp only at hSw
   go_simp
  try simp only [Act.put, List.setIfInBounds_toArray, List.set_cons_zero, List.set_cons_succ]
  refine wpAnyH_ready (rs := [32]) (by kernel_rfl) (by simp) ?_
  refine AllReadyH.cons (o := { dst := none, op := Op.store 46 (Operand.tmp 36) (Operand.tmp 33), type := 0, pos := _, after := _, guard := none }) rfl (fun K hK => ?_) AllReadyH.nil
  go_simp
  refine hK.out _ _ HS4.out (fun hHeld => ?_)
  clear hK K
  try simp only [Act.put, List.setIfInBounds_toArray, List.set_cons_zero, List.set_cons_succ]
  refine wpAnyH_done (by kernel_rfl) ?_ _
  clear HE4x hS hSb kS fS HS0 HS1 HS3 HS4 hown3 hgrow3 hb3 hr3 hP3
  generalize w3.setCell ⟨P, 21, none⟩ (.slice a3 (t.x.length + 1) cq3) = V at HE4 HB4 HK4 ⊢
  go_wp2
  go_ret
  exact ⟨rfl, ⟨g, cap, us, _, HE4.out⟩, HB4.out, HK4.out⟩
 ·go_simp
  refine hK.out _ _ HS1.out (fun hHeld => ?_)
  clear hK K
  try simp only [Act.put, List.setIfInBounds_toArray, List.set_cons_zero, List.set_cons_succ]
  refine wpAnyH_ready (rs := [5]) (by kernel_rfl) (by simp) ?_
  refine AllReadyH.cons (o := { dst := some 10, op := Op.load 46 (Operand.tmp 9), type := 46, pos := _, after := _, guard := none }) rfl (fun K hK => ?_) AllReadyH.nil
  go_simp
  refine hK.out _ _ HS1.out (fun hHeld => ?_)
  clear hK K
  try simp only [Act.put, List.setIfInBounds_toArray, List.set_cons_zero, List.set_cons_succ]
  refine wpAnyH_ready (rs := [28]) (by kernel_rfl) (by simp) ?_
  refine AllReadyH.cons (o := { dst := some 33, op := Op.call { callee := Callee.builtin Builtin.append, args := #[Operand.tmp 10, Operand.tmp 32], argTypes := #[46, 46] }, type := 46, pos := _, after := _, guard := none }) rfl (fun K hK => ?_) AllReadyH.nil
  refine step_append_own (w := W0.drew.alloc (.cells #[.int .i64 e.t, .int .i64 e.d, .int .i64 (t.reg i)] 108)) rfl (.tmp 10) (.tmp 32) 46 rfl B 108 i0 (.agg #[.int .i64 0, .int .i64 0, .int .i64 0]) 3 24 Tryz.underlying46 hi0 hz0 hz1 hz2 rfl (by decide) ux t.x.length (cellsX t.x) rfl HE1.out.x ⟨W0.heap.size, 0, none⟩ 1 1 ((⟨e.t, e.d, t.reg i⟩ : Em).cs) rfl rfl (at_newX W0.drew (⟨e.t, e.d, t.reg i⟩ : Em)) (em_ones (⟨e.t, e.d, t.reg i⟩ : Em)) (by unfold maxLen; omega) (by omega) hsz1 ?_
  intro u3 w3 hown3 hgrow3
  obtain ⟨a3, cq3, hv3⟩ := own_slice hown3
  subst hv3
  have hb3 := HE1.out.blk.grown hgrow3 (HE1.out.blk.off HE1.out.x HE1.out.ty.2.2)
  have kS : w3.cell? ⟨P, 21, none⟩ = some ux := hb3.cell (i := 21) rfl
  have fS : w3.frozen? ⟨P, 21, none⟩ = false := hb3.free 21
  have hr3 := HE1.out.r.kept hgrow3 (own_apart HE1.out.r HE1.out.x (by decide))
  have hP3 := HP1.out.grown hgrow3 (HP1.out.off HE1.out.x (by decide))
  have HS3 : Hid (w3.cell? ⟨w.heap.size, 1, none⟩ = some (.int .i64 i) ∧ w3.cell? ⟨w.heap.size, 2, none⟩ = some (.int .i64 o.b) ∧ w3.cell? ⟨w.heap.size, 3, none⟩ = some (.int .i64 o.k) ∧ w3.cell? ⟨P, 10, none⟩ = some (.int .i64 e.t) ∧ w3.cell? ⟨P, 13, none⟩ = some (.int .i64 e.d) ∧ w3.cell? ⟨P, 17, none⟩ = some (vReg g cap) ∧ w3.cell? ⟨g, i, none⟩ = some (.int .i64 (t.reg i))) := ⟨hP3.cell (i := 1) rfl, hP3.cell (i := 2) rfl, hP3.cell (i := 3) rfl, hb3.cell (i := 10) rfl, hb3.cell (i := 13) rfl, hb3.cell (i := 17) rfl, regOf hr3 hi1⟩
  have HE4 : Hid (Eff B (w3.setCell ⟨P, 21, none⟩ (.slice a3 (t.x.length + 1) cq3)) P 175 (preT n s z vi vh vs c0 c1 c2 c3 e) { t with x := t.x ++ [(⟨e.t, e.d, t.reg i⟩ : Em)] } k g cap us (.slice a3 (t.x.length + 1) cq3)) := HE1.out.told hown3 hgrow3
  have HE4x : Keeps w3 (w3.setCell ⟨P, 21, none⟩ (.slice a3 (t.x.length + 1) cq3)) := keeps_at hb3 21 _
  have HS4 : Hid ((w3.setCell ⟨P, 21, none⟩ (.slice a3 (t.x.length + 1) cq3)).cell? ⟨w.heap.size, 1, none⟩ = some (.int .i64 i) ∧ (w3.setCell ⟨P, 21, none⟩ (.slice a3 (t.x.length + 1) cq3)).cell? ⟨w.heap.size, 2, none⟩ = some (.int .i64 o.b) ∧ (w3.setCell ⟨P, 21, none⟩ (.slice a3 (t.x.length + 1) cq3)).cell? ⟨w.heap.size, 3, none⟩ = some (.int .i64 o.k) ∧ (w3.setCell ⟨P, 21, none⟩ (.slice a3 (t.x.length + 1) cq3)).cell? ⟨P, 10, none⟩ = some (.int .i64 e.t) ∧ (w3.setCell ⟨P, 21, none⟩ (.slice a3 (t.x.length + 1) cq3)).cell? ⟨P, 13, none⟩ = some (.int .i64 e.d) ∧ (w3.setCell ⟨P, 21, none⟩ (.slice a3 (t.x.length + 1) cq3)).cell? ⟨P, 17, none⟩ = some (vReg g cap) ∧ (w3.setCell ⟨P, 21, none⟩ (.slice a3 (t.x.length + 1) cq3)).cell? ⟨g, i, none⟩ = some (.int .i64 (t.reg i))) := ⟨(hP3.other 21 _ hoP).cell (i := 1) rfl, (hP3.other 21 _ hoP).cell (i := 2) rfl, (hP3.other 21 _ hoP).cell (i := 3) rfl, HE4.out.blk.cell (i := 10) rfl, HE4.out.blk.cell (i := 13) rfl, HE4.out.blk.cell (i := 17) rfl, (HE4.out).reg i hi1⟩
  have HB4 : Hid (Below B w (w3.setCell ⟨P, 21, none⟩ (.slice a3 (t.x.length + 1) cq3))) := ((HB.out.drew.alloc hszd _).grown hgrow3 hsz1 (fun k e => row_ge HE1.out.x e)).setCell (p := ⟨P, 21, none⟩) HE1.out.lo _
  have HK4 : Hid (Keeps w (w3.setCell ⟨P, 21, none⟩ (.slice a3 (t.x.length + 1) cq3))) := ((HK.out.trans (keeps_drew W0)).trans (keeps_alloc W0.drew (.cells #[.int .i64 e.t, .int .i64 e.d, .int .i64 (t.reg i)] 108))).trans ((keeps_told HE1.out.x hgrow3).trans (fun K T vs hT hb => (HE4x K T vs hT hb)))
  refine hK.out _ _ HS3.out (fun hHeld => ?_)
  clear hK K
  try simp only [Act.put, List.setIfInBounds_toArray, List.set_cons_zero, List.set_cons_succ]
  refine wpAnyH_take (i := 29) (oi := { dst := some 34, op := Op.nilCheck (Operand.tmp 5), type := 0, pos := _, after := _, guard := none }) (v := .pointer (some ⟨P, 0, none⟩)) rfl (by kernel_rfl) (by kernel_rfl) (by kernel_rfl) (fun _ _ _ h => h) (Or.inl ⟨by rfl, ?_⟩) (by assumption) ?_
  ·intro wX hSw
   try dsimp only at hSw
   go_simp
  try simp only [Act.put, List.setIfInBounds_toArray, List.set_cons_zero, List.set_cons_succ]
  refine wpAnyH_take (i := 30) (oi := { dst := some 35, op := Op.fieldAddr 175 (Operand.tmp 34) 3, type := 0, pos := _, after := _, guard := none }) (v := .pointer (some ⟨P, 17, none⟩)) rfl (by kernel_rfl) (by kernel_rfl) (by kernel_rfl) (fun _ _ _ h => h) (Or.inl ⟨by rfl, ?_⟩) (by assumption) ?_
  ·intro wX hSw
   try dsimp only at hSw
   go_simp
  try simp only [Act.put, List.setIfInBounds_toArray, List.set_cons_zero, List.set_cons_succ]
  refine wpAnyH_take (i := 31) (oi := { dst := some 36, op := Op.fieldAddr 154 (Operand.tmp 35) 2, type := 0, pos := _, after := _, guard := none }) (v := .pointer (some ⟨P, 21, none⟩)) rfl (by kernel_rfl) (by kernel_rfl) (by kernel_rfl) (fun _ _ _ h => h) (Or.inl ⟨by rfl, ?_⟩) (by assumption) ?_
  ·intro wX hSw
   try dsimp only at hSw
   go_simp
  try simp only [Act.put, List.setIfInBounds_toArray, List.set_cons_zero, List.set_cons_succ]
  refine wpAnyH_ready (rs := [32]) (by kernel_rfl) (by simp) ?_
  refine AllReadyH.cons (o := { dst := none, op := Op.store 46 (Operand.tmp 36) (Operand.tmp 33), type := 0, pos := _, after := _, guard := none }) rfl (fun K hK => ?_) AllReadyH.nil
  go_simp
  refine hK.out _ _ HS4.out (fun hHeld => ?_)
  clear hK K
  try simp only [Act.put, List.setIfInBounds_toArray, List.set_cons_zero, List.set_cons_succ]
  refine wpAnyH_done (by kernel_rfl) ?_ _
  clear HE4x hS hSb kS fS HS0 HS1 HS3 HS4 hown3 hgrow3 hb3 hr3 hP3
  generalize w3.setCell ⟨P, 21, none⟩ (.slice a3 (t.x.length + 1) cq3) = V at HE4 HB4 HK4 ⊢
  go_wp2
  go_ret
  exact ⟨rfl, ⟨g, cap, us, _, HE4.out⟩, HB4.out, HK4.out⟩
set_option maxRecDepth 100000 in
set_option maxHeartbeats 4000000 in
theorem draw_any (B P : Nat) (n s z : Int) (vi vh vs : Value) (c0 c1 c2 c3 : Int) (e : Ev) (t : Tn) (k : Int) (g cap : Nat) (us ux : Value) (o : O) (j : Nat) (gt : GoodT t j) (hj : j ≤ 8) (ha0 : 0 ≤ o.a) (ha1 : o.a ≤ 1) (hb0 : 1 ≤ o.b) (hb1 : o.b ≤ 999) (hs0 : 0 ≤ s) (hs1 : s ≤ 65535) (hd0 : 0 ≤ e.d) (hd1 : e.d ≤ 3) (w : World) (h : Eff B w P 175 (preT n s z vi vh vs c0 c1 c2 c3 e) t k g cap us ux) :
  Calls Tryz.prog 112 #[.pointer (some ⟨P, 0, none⟩), .agg #[.int .i64 o.c, .int .i64 o.a, .int .i64 o.b, .int .i64 o.k]] w (MPost B P w (preT n s z vi vh vs c0 c1 c2 c3 e) { t.put o.a (randI s e.d t.d % o.b) with d := t.d + 1 } k 0) := by
 obtain ⟨hBw, hPw⟩ := h.le
 obtain ⟨hgB, hgw⟩ := h.glo
 have hne := h.ne
 obtain ⟨W0, hW0⟩ : ∃ W0, w.alloc (.cells #[.int .i64 o.c, .int .i64 o.a, .int .i64 o.b, .int .i64 o.k] 39) = W0 := ⟨_, rfl⟩
 have HE : Hid (Eff B W0 P 175 (preT n s z vi vh vs c0 c1 c2 c3 e) t k g cap us ux) := hW0 ▸ h.alloc _
 have HB : Hid (Below B w W0) := hW0 ▸ (Below.refl B w).alloc hBw _
 have HK : Hid (Keeps w W0) := hW0 ▸ keeps_alloc w _
 have HP : Hid (Bk W0 w.heap.size 39 #[.int .i64 o.c, .int .i64 o.a, .int .i64 o.b, .int .i64 o.k]) := hW0 ▸ Bk.new w _ _
 have hsz : w.heap.size < W0.heap.size := HP.out.lt
 have p1 : W0.cell? ⟨w.heap.size, 1, none⟩ = some (.int .i64 o.a) := HP.out.cell (i := 1) rfl
 have p2 : W0.cell? ⟨w.heap.size, 2, none⟩ = some (.int .i64 o.b) := HP.out.cell (i := 2) rfl
 have p3 : W0.cell? ⟨w.heap.size, 3, none⟩ = some (.int .i64 o.k) := HP.out.cell (i := 3) rfl
 clear h
 obtain ⟨i, hi⟩ : ∃ i : Nat, o.a = (i : Int) := ⟨(o.a).toNat, by omega⟩
 have hi1 : i ≤ 1 := by omega
 obtain ⟨hr0, hr1⟩ := gt.reg (i : Int)
 rw [hi] at p1 hW0 ⊢
 have hi2 : (i : Int) < 2 := by omega
 have hq1 : t.d ≤ 100000 := by have := gt.d1; omega
 have hq0 := gt.d0
 have HP : Hid (Bk W0 w.heap.size 39 #[.int .i64 o.c, .int .i64 i, .int .i64 o.b, .int .i64 o.k]) := by have h9 := HP.out; rw [hi] at h9; exact h9
 have hrn : rndB s e.d t.d o.b = randI s e.d t.d % o.b := by
  unfold rndB
  rw [if_pos ⟨placeB_iff.2 (by omega), by simp [modB]; omega⟩]
 have HC : Hid (∀ W : World, Calls Tryz.prog 118 #[.int .i64 s, .int .i64 e.d, .int .i64 t.d, .int .i64 o.b] W fun r w' => r = .returned (.int .i64 (randI s e.d t.d % o.b)) ∧ Below W.heap.size W w') := by
  intro W
  have h9 := iBelow_any s e.d t.d o.b W
  rw [hrn] at h9
  exact h9
 clear hrn
 have HS0 : Hid (W0.drew.cell? ⟨w.heap.size, 1, none⟩ = some (.int .i64 i) ∧ W0.drew.cell? ⟨w.heap.size, 2, none⟩ = some (.int .i64 o.b) ∧ W0.drew.cell? ⟨P, 1, none⟩ = some (.int .i64 s) ∧ W0.drew.cell? ⟨P, 13, none⟩ = some (.int .i64 e.d) ∧ W0.drew.cell? ⟨P, 17, none⟩ = some (vReg g cap) ∧ W0.drew.cell? ⟨P, 19, none⟩ = some (.int .i64 t.d)) := ⟨(HP.out.drew).cell (i := 1) rfl, (HP.out.drew).cell (i := 2) rfl, (HE.out.drew).blk.cell (i := 1) rfl, (HE.out.drew).blk.cell (i := 13) rfl, (HE.out.drew).blk.cell (i := 17) rfl, (HE.out.drew).blk.cell (i := 19) rfl⟩
 have hng : w.heap.size ≠ g := by omega
 go_enter Tryz.func112, Tryz.ntmps112
 go_wp2
 clear hW0 p1 p2 p3
 go_region_held3 (fun W => W.cell? ⟨w.heap.size, 1, none⟩ = some (.int .i64 i) ∧ W.cell? ⟨w.heap.size, 2, none⟩ = some (.int .i64 o.b) ∧ W.cell? ⟨P, 1, none⟩ = some (.int .i64 s) ∧ W.cell? ⟨P, 13, none⟩ = some (.int .i64 e.d) ∧ W.cell? ⟨P, 17, none⟩ = some (vReg g cap) ∧ W.cell? ⟨P, 19, none⟩ = some (.int .i64 t.d)) (first | exact HS0.out | exact HS3.out | exact HS4.out)
  (first | (go_at_call 118; refine (HC.out _).mono ?_; rintro r w3 ⟨rfl, hb⟩; have HE3 : Hid (Eff B w3 P 175 (preT n s z vi vh vs c0 c1 c2 c3 e) t k g cap us ux) := HE.out.drew.below hb; have hP3 := HP.out.drew.below hb; have HB3 : Hid (Below B w w3) := HB.out.drew.trans (hb.mono HE.out.drew.le.1); have HS3 : Hid (w3.cell? ⟨w.heap.size, 1, none⟩ = some (.int .i64 i) ∧ w3.cell? ⟨w.heap.size, 2, none⟩ = some (.int .i64 o.b) ∧ w3.cell? ⟨P, 1, none⟩ = some (.int .i64 s) ∧ w3.cell? ⟨P, 13, none⟩ = some (.int .i64 e.d) ∧ w3.cell? ⟨P, 17, none⟩ = some (vReg g cap) ∧ w3.cell? ⟨P, 19, none⟩ = some (.int .i64 t.d)) := ⟨(hP3).cell (i := 1) rfl, (hP3).cell (i := 2) rfl, (HE3.out).blk.cell (i := 1) rfl, (HE3.out).blk.cell (i := 13) rfl, (HE3.out).blk.cell (i := 17) rfl, (HE3.out).blk.cell (i := 19) rfl⟩; have HE4 : Hid (Eff B (w3.setCell ⟨g, i, none⟩ (.int .i64 (randI s e.d t.d % o.b))) P 175 (preT n s z vi vh vs c0 c1 c2 c3 e) (t.put i (randI s e.d t.d % o.b)) k g cap us ux) := HE3.out.put i hi1 _; have HS4 : Hid ((w3.setCell ⟨g, i, none⟩ (.int .i64 (randI s e.d t.d % o.b))).cell? ⟨w.heap.size, 1, none⟩ = some (.int .i64 i) ∧ (w3.setCell ⟨g, i, none⟩ (.int .i64 (randI s e.d t.d % o.b))).cell? ⟨w.heap.size, 2, none⟩ = some (.int .i64 o.b) ∧ (w3.setCell ⟨g, i, none⟩ (.int .i64 (randI s e.d t.d % o.b))).cell? ⟨P, 1, none⟩ = some (.int .i64 s) ∧ (w3.setCell ⟨g, i, none⟩ (.int .i64 (randI s e.d t.d % o.b))).cell? ⟨P, 13, none⟩ = some (.int .i64 e.d) ∧ (w3.setCell ⟨g, i, none⟩ (.int .i64 (randI s e.d t.d % o.b))).cell? ⟨P, 17, none⟩ = some (vReg g cap) ∧ (w3.setCell ⟨g, i, none⟩ (.int .i64 (randI s e.d t.d % o.b))).cell? ⟨P, 19, none⟩ = some (.int .i64 t.d)) := ⟨(hP3.other i _ hng).cell (i := 1) rfl, (hP3.other i _ hng).cell (i := 2) rfl, (HE3.out.blk.other i _ hne).cell (i := 1) rfl, (HE3.out.blk.other i _ hne).cell (i := 13) rfl, (HE3.out.blk.other i _ hne).cell (i := 17) rfl, (HE3.out.blk.other i _ hne).cell (i := 19) rfl⟩; have HB4 : Hid (Below B w (w3.setCell ⟨g, i, none⟩ (.int .i64 (randI s e.d t.d % o.b)))) := HB3.out.setCell (p := ⟨g, i, none⟩) hgB _; have HK4 : Hid (Keeps w (w3.setCell ⟨g, i, none⟩ (.int .i64 (randI s e.d t.d % o.b)))) := ((HK.out.trans (keeps_drew W0)).trans (keeps_below hb)).trans (HE3.out.keepG i _); have r3 := HE3.out.reg i hi1; have rf3 := HE3.out.free i; clear hb hP3))
 have HEV : Hid (Eff B (w3.setCell ⟨g, i, none⟩ (.int .i64 (randI s e.d t.d % o.b))) P 175 (preT n s z vi vh vs c0 c1 c2 c3 e) (t.put i (randI s e.d t.d % o.b)) k g cap us ux) := HE4.out
 have qd : (w3.setCell ⟨g, i, none⟩ (.int .i64 (randI s e.d t.d % o.b))).cell? ⟨P, 19, none⟩ = some (.int .i64 t.d) := HS4.out.2.2.2.2.2
 clear r3 rf3 HS0 HS3 HS4 HE3 HB3 HE4
 generalize w3.setCell ⟨g, i, none⟩ (.int .i64 (randI s e.d t.d % o.b)) = V at HEV HB4 HK4 qd ⊢
 have fd : V.frozen? ⟨P, 19, none⟩ = false := HEV.out.blk.free 19
 go_wp2
 go_ret
 exact ⟨rfl, ⟨g, cap, us, ux, HEV.out.putD (t.d + 1)⟩, HB4.out.setCell (p := ⟨P, 19, none⟩) HEV.out.lo _, HK4.out.trans (HEV.out.keepP 19 _)⟩
end Go.Proofs.YtbljfphdghfkfaaGreatDoor
