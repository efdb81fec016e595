/- Send and emit. -/
import Derived.Test.YtbljfphdghfkfaaGreatDoorModelsCardG12
import Derived.Test.YtbljfphdghfkfaaGreatDoorModelsCardG09
namespace Go.Proofs.YtbljfphdghfkfaaGreatDoor
open Go.RowKit
theorem infoEm : (Tryz.prog.info? 108).map (fun i => (i.zero, i.size, i.bytes)) = some (some (.agg #[.int .i64 0, .int .i64 0, .int .i64 0]), 3, 24) := by kernel_rfl
theorem own_slice {B : Nat} {e : TypeId} {size n : Nat} {w : World} {v : Value} {xs : List Value} (h : w.ownsRow B e size v n xs) : ∃ a cap, v = .slice a n cap := by
 obtain ⟨_, ⟨rfl, h0⟩ | ⟨g, cap, cur, rfl, _⟩⟩ := h
 ·exact ⟨none, 0, by rw [h0]⟩
 ·exact ⟨_, _, rfl⟩
theorem at_newV (w : World) (e : Ev) : ∀ j u, e.cs[j]? = some u → (w.alloc (.cells #[.int .i64 e.t, .int .i64 e.s, .int .i64 e.q, .int .i64 e.d, .int .i64 e.k, .int .i64 e.v, .int .i64 e.g] 53)).cell? ((⟨w.heap.size, 0, none⟩ : Addr).add j) = some u := by
 intro j u hu
 rw [Addr.add_lit, Nat.zero_add]
 exact (Bk.new w 53 #[.int .i64 e.t, .int .i64 e.s, .int .i64 e.q, .int .i64 e.d, .int .i64 e.k, .int .i64 e.v, .int .i64 e.g]).cell (by simpa [Ev.cs] using hu)
theorem at_newX (w : World) (e : Em) : ∀ j u, e.cs[j]? = some u → (w.alloc (.cells #[.int .i64 e.t, .int .i64 e.l, .int .i64 e.v] 108)).cell? ((⟨w.heap.size, 0, none⟩ : Addr).add j) = some u := by
 intro j u hu
 rw [Addr.add_lit, Nat.zero_add]
 exact (Bk.new w 108 #[.int .i64 e.t, .int .i64 e.l, .int .i64 e.v]).cell (by simpa [Em.cs] using hu)
theorem keeps_at {w : World} {P : Nat} {vs : Array Value} (h : Bk w P 175 vs) (i : Nat) (u : Value) : Keeps w (w.setCell ⟨P, i, none⟩ u) :=
 fun K T vs' hT hb => hb.grown (setCell_grown w P i u) (fun e => by
  cases e
  have h1 : w.heap[P]? = some (.cells vs' T) := hb
  have h2 : w.heap[P]? = some (.cells vs 175) := h
  rw [h1] at h2
  cases h2
  exact hT.2.2.2 rfl)
theorem ev_ones (e : Ev) : ∀ u ∈ e.cs, u.oneCell' = true := fun u hu => cellsL_one [e] u (by simpa [cellsL] using hu)
theorem em_ones (e : Em) : ∀ u ∈ e.cs, u.oneCell' = true := fun u hu => cellsX_one [e] u (by simpa [cellsX] using hu)
set_option maxRecDepth 100000 in
set_option maxHeartbeats 4000000 in
theorem send_any (B P : Nat) (n s z : Int) (vi vh vs : Value) (c0 c1 c2 c3 : Int) (e : Ev) (t : Tn) (k : Int) (g cap : Nat) (us ux : Value) (o : O) (j : Nat) (gt : GoodT t j) (hj : j ≤ 8) (ht0 : 0 ≤ e.t) (ht1 : e.t ≤ 1000) (hb0 : 0 ≤ o.b) (hb1 : o.b ≤ 50) (w : World) (h : Eff B w P 175 (preT n s z vi vh vs c0 c1 c2 c3 e) t k g cap us ux) :
  Calls Tryz.prog 108 #[.pointer (some ⟨P, 0, none⟩), .agg #[.int .i64 o.c, .int .i64 o.a, .int .i64 o.b, .int .i64 o.k]] w (MPost B P w (preT n s z vi vh vs c0 c1 c2 c3 e) { t with s := t.s ++ [sentE e o t], q := t.q + 1 } k 0) := by
 obtain ⟨hBw, hPw⟩ := h.le
 obtain ⟨hgB, hgw⟩ := h.glo
 have hne := h.ne
 obtain ⟨W0, hW0⟩ : ∃ W0, w.alloc (.cells #[.int .i64 o.c, .int .i64 o.a, .int .i64 o.b, .int .i64 o.k] 39) = W0 := ⟨_, rfl⟩
 have HE : Hid (Eff B W0 P 175 (preT n s z vi vh vs c0 c1 c2 c3 e) t k g cap us ux) := hW0 ▸ h.alloc _
 have HB : Hid (Below B w W0) := hW0 ▸ (Below.refl B w).alloc hBw _
 have HK : Hid (Keeps w W0) := hW0 ▸ keeps_alloc w _
 have HP : Hid (Bk W0 w.heap.size 39 #[.int .i64 o.c, .int .i64 o.a, .int .i64 o.b, .int .i64 o.k]) := hW0 ▸ Bk.new w _ _
 have hsz : w.heap.size < W0.heap.size := HP.out.lt
 have p1 : W0.cell? ⟨w.heap.size, 1, none⟩ = some (.int .i64 o.a) := HP.out.cell (i := 1) rfl
 have p2 : W0.cell? ⟨w.heap.size, 2, none⟩ = some (.int .i64 o.b) := HP.out.cell (i := 2) rfl
 have p3 : W0.cell? ⟨w.heap.size, 3, none⟩ = some (.int .i64 o.k) := HP.out.cell (i := 3) rfl
 clear h
 have hS : W0.cell? ⟨P, 20, none⟩ = some us := HE.out.blk.cell (i := 20) rfl
 have hlen : t.s.length ≤ 8 := by have := gt.s1; omega
 have HP : Hid (Bk W0 w.heap.size 39 #[.int .i64 o.c, .int .i64 o.a, .int .i64 o.b, .int .i64 o.k]) := HP.out
 have HS0 : Hid (W0.drew.cell? ⟨w.heap.size, 1, none⟩ = some (.int .i64 o.a) ∧ W0.drew.cell? ⟨w.heap.size, 2, none⟩ = some (.int .i64 o.b) ∧ W0.drew.cell? ⟨w.heap.size, 3, none⟩ = some (.int .i64 o.k) ∧ W0.drew.cell? ⟨P, 10, none⟩ = some (.int .i64 e.t) ∧ W0.drew.cell? ⟨P, 13, none⟩ = some (.int .i64 e.d) ∧ W0.drew.cell? ⟨P, 17, none⟩ = some (vReg g cap) ∧ W0.drew.cell? ⟨P, 18, none⟩ = some (.int .i64 t.q) ∧ W0.drew.cell? ⟨g, 0, none⟩ = some (.int .i64 t.a)) := ⟨(HP.out.drew).cell (i := 1) rfl, (HP.out.drew).cell (i := 2) rfl, (HP.out.drew).cell (i := 3) rfl, (HE.out.drew).blk.cell (i := 10) rfl, (HE.out.drew).blk.cell (i := 13) rfl, (HE.out.drew).blk.cell (i := 17) rfl, (HE.out.drew).blk.cell (i := 18) rfl, (HE.out.drew).reg0⟩
 have HS1 : Hid ((W0.drew.alloc (.cells #[.int .i64 (e.t + o.b), .int .i64 e.d, .int .i64 t.q, .int .i64 o.a, .int .i64 o.k, .int .i64 t.a, .int .i64 0] 53)).cell? ⟨w.heap.size, 1, none⟩ = some (.int .i64 o.a) ∧ (W0.drew.alloc (.cells #[.int .i64 (e.t + o.b), .int .i64 e.d, .int .i64 t.q, .int .i64 o.a, .int .i64 o.k, .int .i64 t.a, .int .i64 0] 53)).cell? ⟨w.heap.size, 2, none⟩ = some (.int .i64 o.b) ∧ (W0.drew.alloc (.cells #[.int .i64 (e.t + o.b), .int .i64 e.d, .int .i64 t.q, .int .i64 o.a, .int .i64 o.k, .int .i64 t.a, .int .i64 0] 53)).cell? ⟨w.heap.size, 3, none⟩ = some (.int .i64 o.k) ∧ (W0.drew.alloc (.cells #[.int .i64 (e.t + o.b), .int .i64 e.d, .int .i64 t.q, .int .i64 o.a, .int .i64 o.k, .int .i64 t.a, .int .i64 0] 53)).cell? ⟨P, 10, none⟩ = some (.int .i64 e.t) ∧ (W0.drew.alloc (.cells #[.int .i64 (e.t + o.b), .int .i64 e.d, .int .i64 t.q, .int .i64 o.a, .int .i64 o.k, .int .i64 t.a, .int .i64 0] 53)).cell? ⟨P, 13, none⟩ = some (.int .i64 e.d) ∧ (W0.drew.alloc (.cells #[.int .i64 (e.t + o.b), .int .i64 e.d, .int .i64 t.q, .int .i64 o.a, .int .i64 o.k, .int .i64 t.a, .int .i64 0] 53)).cell? ⟨P, 17, none⟩ = some (vReg g cap) ∧ (W0.drew.alloc (.cells #[.int .i64 (e.t + o.b), .int .i64 e.d, .int .i64 t.q, .int .i64 o.a, .int .i64 o.k, .int .i64 t.a, .int .i64 0] 53)).cell? ⟨P, 18, none⟩ = some (.int .i64 t.q) ∧ (W0.drew.alloc (.cells #[.int .i64 (e.t + o.b), .int .i64 e.d, .int .i64 t.q, .int .i64 o.a, .int .i64 o.k, .int .i64 t.a, .int .i64 0] 53)).cell? ⟨g, 0, none⟩ = some (.int .i64 t.a)) := ⟨(HP.out.drew.alloc (.cells #[.int .i64 (e.t + o.b), .int .i64 e.d, .int .i64 t.q, .int .i64 o.a, .int .i64 o.k, .int .i64 t.a, .int .i64 0] 53)).cell (i := 1) rfl, (HP.out.drew.alloc (.cells #[.int .i64 (e.t + o.b), .int .i64 e.d, .int .i64 t.q, .int .i64 o.a, .int .i64 o.k, .int .i64 t.a, .int .i64 0] 53)).cell (i := 2) rfl, (HP.out.drew.alloc (.cells #[.int .i64 (e.t + o.b), .int .i64 e.d, .int .i64 t.q, .int .i64 o.a, .int .i64 o.k, .int .i64 t.a, .int .i64 0] 53)).cell (i := 3) rfl, (HE.out.drew.alloc (.cells #[.int .i64 (e.t + o.b), .int .i64 e.d, .int .i64 t.q, .int .i64 o.a, .int .i64 o.k, .int .i64 t.a, .int .i64 0] 53)).blk.cell (i := 10) rfl, (HE.out.drew.alloc (.cells #[.int .i64 (e.t + o.b), .int .i64 e.d, .int .i64 t.q, .int .i64 o.a, .int .i64 o.k, .int .i64 t.a, .int .i64 0] 53)).blk.cell (i := 13) rfl, (HE.out.drew.alloc (.cells #[.int .i64 (e.t + o.b), .int .i64 e.d, .int .i64 t.q, .int .i64 o.a, .int .i64 o.k, .int .i64 t.a, .int .i64 0] 53)).blk.cell (i := 17) rfl, (HE.out.drew.alloc (.cells #[.int .i64 (e.t + o.b), .int .i64 e.d, .int .i64 t.q, .int .i64 o.a, .int .i64 o.k, .int .i64 t.a, .int .i64 0] 53)).blk.cell (i := 18) rfl, (HE.out.drew.alloc (.cells #[.int .i64 (e.t + o.b), .int .i64 e.d, .int .i64 t.q, .int .i64 o.a, .int .i64 o.k, .int .i64 t.a, .int .i64 0] 53)).reg0⟩
 have HE1 : Hid (Eff B (W0.drew.alloc (.cells #[.int .i64 (e.t + o.b), .int .i64 e.d, .int .i64 t.q, .int .i64 o.a, .int .i64 o.k, .int .i64 t.a, .int .i64 0] 53)) P 175 (preT n s z vi vh vs c0 c1 c2 c3 e) t k g cap us ux) := HE.out.drew.alloc _
 have HP1 : Hid (Bk (W0.drew.alloc (.cells #[.int .i64 (e.t + o.b), .int .i64 e.d, .int .i64 t.q, .int .i64 o.a, .int .i64 o.k, .int .i64 t.a, .int .i64 0] 53)) w.heap.size 39 #[.int .i64 o.c, .int .i64 o.a, .int .i64 o.b, .int .i64 o.k]) := HP.out.drew.alloc _
 have hSb : (W0.alloc (.cells #[.int .i64 (e.t + o.b), .int .i64 e.d, .int .i64 t.q, .int .i64 o.a, .int .i64 o.k, .int .i64 t.a, .int .i64 0] 53)).cell? ⟨P, 20, none⟩ = some us := HE1.out.blk.cell (i := 20) rfl
 have hsz1 : B ≤ (W0.drew.alloc (.cells #[.int .i64 (e.t + o.b), .int .i64 e.d, .int .i64 t.q, .int .i64 o.a, .int .i64 o.k, .int .i64 t.a, .int .i64 0] 53)).heap.size := by have := HE1.out.le; omega
 obtain ⟨i0, hi0, hz0, hz1, hz2⟩ := info_parts info25
 have hoP : w.heap.size ≠ P := by omega
 have hszd : B ≤ W0.drew.heap.size := by show B ≤ W0.heap.size; omega
 have hq1 : t.q ≤ 100000 := by have := gt.q1; omega
 have hq0 := gt.q0
 have hwr : IntKind.i64.wrap (e.t + o.b) = e.t + o.b := by rw [IntKind.wrap_i64]; omega
 go_enter Tryz.func108, Tryz.ntmps108
 go_wp2
 clear hW0 p1 p2 p3
 refine wp_region_held_drew (S := fun W => W.cell? ⟨w.heap.size, 1, none⟩ = some (.int .i64 o.a) ∧ W.cell? ⟨w.heap.size, 2, none⟩ = some (.int .i64 o.b) ∧ W.cell? ⟨w.heap.size, 3, none⟩ = some (.int .i64 o.k) ∧ W.cell? ⟨P, 10, none⟩ = some (.int .i64 e.t) ∧ W.cell? ⟨P, 13, none⟩ = some (.int .i64 e.d) ∧ W.cell? ⟨P, 17, none⟩ = some (vReg g cap) ∧ W.cell? ⟨P, 18, none⟩ = some (.int .i64 t.q) ∧ W.cell? ⟨g, 0, none⟩ = some (.int .i64 t.a)) (by kernel_rfl) HS0.out (fun hHeld => ?_)
 refine wpAnyH_take (i := 0) (oi := { dst := some 5, op := Op.move (Operand.tmp 0), type := 173, pos := _, after := _, guard := none }) (v := .pointer (some ⟨P, 0, none⟩)) rfl (by kernel_rfl) (by kernel_rfl) (by kernel_rfl) (fun _ _ _ h => h) (Or.inl ⟨by rfl, ?_⟩) (by assumption) ?_
 ·intro wX hSw
  try dsimp only at hSw
  go_simp
 try simp only [Act.put, List.setIfInBounds_toArray, List.set_cons_zero, List.set_cons_succ]
 refine wpAnyH_take (i := 1) (oi := { dst := some 6, op := Op.move (Operand.tmp 0), type := 173, pos := _, after := _, guard := none }) (v := .pointer (some ⟨P, 0, none⟩)) rfl (by kernel_rfl) (by kernel_rfl) (by kernel_rfl) (fun _ _ _ h => h) (Or.inl ⟨by rfl, ?_⟩) (by assumption) ?_
 ·intro wX hSw
  try dsimp only at hSw
  go_simp
 try simp only [Act.put, List.setIfInBounds_toArray, List.set_cons_zero, List.set_cons_succ]
 refine wpAnyH_take (i := 2) (oi := { dst := some 7, op := Op.nilCheck (Operand.tmp 6), type := 0, pos := _, after := _, guard := none }) (v := .pointer (some ⟨P, 0, none⟩)) rfl (by kernel_rfl) (by kernel_rfl) (by kernel_rfl) (fun _ _ _ h => h) (Or.inl ⟨by rfl, ?_⟩) (by assumption) ?_
 ·intro wX hSw
  try dsimp only at hSw
  go_simp
 try simp only [Act.put, List.setIfInBounds_toArray, List.set_cons_zero, List.set_cons_succ]
 refine wpAnyH_take (i := 3) (oi := { dst := some 8, op := Op.fieldAddr 175 (Operand.tmp 7) 3, type := 0, pos := _, after := _, guard := none }) (v := .pointer (some ⟨P, 17, none⟩)) rfl (by kernel_rfl) (by kernel_rfl) (by kernel_rfl) (fun _ _ _ h => h) (Or.inl ⟨by rfl, ?_⟩) (by assumption) ?_
 ·intro wX hSw
  try dsimp only at hSw
  go_simp
 try simp only [Act.put, List.setIfInBounds_toArray, List.set_cons_zero, List.set_cons_succ]
 refine wpAnyH_take (i := 4) (oi := { dst := some 9, op := Op.fieldAddr 154 (Operand.tmp 8) 1, type := 0, pos := _, after := _, guard := none }) (v := .pointer (some ⟨P, 20, none⟩)) rfl (by kernel_rfl) (by kernel_rfl) (by kernel_rfl) (fun _ _ _ h => h) (Or.inl ⟨by rfl, ?_⟩) (by assumption) ?_
 ·intro wX hSw
  try dsimp only at hSw
  go_simp
 try simp only [Act.put, List.setIfInBounds_toArray, List.set_cons_zero, List.set_cons_succ]
 refine wpAnyH_take (i := 6) (oi := { dst := some 11, op := Op.move (Operand.tmp 0), type := 173, pos := _, after := _, guard := none }) (v := .pointer (some ⟨P, 0, none⟩)) rfl (by kernel_rfl) (by kernel_rfl) (by kernel_rfl) (fun _ _ _ h => h) (Or.inl ⟨by rfl, ?_⟩) (by assumption) ?_
 ·intro wX hSw
  try dsimp only at hSw
  go_simp
 try simp only [Act.put, List.setIfInBounds_toArray, List.set_cons_zero, List.set_cons_succ]
 refine wpAnyH_take (i := 7) (oi := { dst := some 12, op := Op.nilCheck (Operand.tmp 11), type := 0, pos := _, after := _, guard := none }) (v := .pointer (some ⟨P, 0, none⟩)) rfl (by kernel_rfl) (by kernel_rfl) (by kernel_rfl) (fun _ _ _ h => h) (Or.inl ⟨by rfl, ?_⟩) (by assumption) ?_
 ·intro wX hSw
  try dsimp only at hSw
  go_simp
 try simp only [Act.put, List.setIfInBounds_toArray, List.set_cons_zero, List.set_cons_succ]
 refine wpAnyH_take (i := 8) (oi := { dst := some 13, op := Op.fieldAddr 175 (Operand.tmp 12) 2, type := 0, pos := _, after := _, guard := none }) (v := .pointer (some ⟨P, 10, none⟩)) rfl (by kernel_rfl) (by kernel_rfl) (by kernel_rfl) (fun _ _ _ h => h) (Or.inl ⟨by rfl, ?_⟩) (by assumption) ?_
 ·intro wX hSw
  try dsimp only at hSw
  go_simp
 try simp only [Act.put, List.setIfInBounds_toArray, List.set_cons_zero, List.set_cons_succ]
 refine wpAnyH_take (i := 9) (oi := { dst := some 14, op := Op.fieldAddr 53 (Operand.tmp 13) 0, type := 0, pos := _, after := _, guard := none }) (v := .pointer (some ⟨P, 10, none⟩)) rfl (by kernel_rfl) (by kernel_rfl) (by kernel_rfl) (fun _ _ _ h => h) (Or.inl ⟨by rfl, ?_⟩) (by assumption) ?_
 ·intro wX hSw
  try dsimp only at hSw
  go_simp
 try simp only [Act.put, List.setIfInBounds_toArray, List.set_cons_zero, List.set_cons_succ]
 refine wpAnyH_take (i := 10) (oi := { dst := some 15, op := Op.load 3 (Operand.tmp 14), type := 3, pos := _, after := _, guard := none }) (v := .int .i64 e.t) rfl (by kernel_rfl) (by kernel_rfl) (by kernel_rfl) (fun _ _ _ h => h) (Or.inl ⟨by rfl, ?_⟩) (by assumption) ?_
 ·intro wX hSw
  try dsimp only at hSw
  go_simp
 try simp only [Act.put, List.setIfInBounds_toArray, List.set_cons_zero, List.set_cons_succ]
 refine wpAnyH_take (i := 11) (oi := { dst := some 16, op := Op.fieldAddr 39 (Operand.tmp 3) 2, type := 0, pos := _, after := _, guard := none }) (v := .pointer (some ⟨w.heap.size, 2, none⟩)) rfl (by kernel_rfl) (by kernel_rfl) (by kernel_rfl) (fun _ _ _ h => h) (Or.inl ⟨by rfl, ?_⟩) (by assumption) ?_
 ·intro wX hSw
  try dsimp only at hSw
  go_simp
 try simp only [Act.put, List.setIfInBounds_toArray, List.set_cons_zero, List.set_cons_succ]
 refine wpAnyH_take (i := 12) (oi := { dst := some 17, op := Op.load 3 (Operand.tmp 16), type := 3, pos := _, after := _, guard := none }) (v := .int .i64 o.b) rfl (by kernel_rfl) (by kernel_rfl) (by kernel_rfl) (fun _ _ _ h => h) (Or.inl ⟨by rfl, ?_⟩) (by assumption) ?_
 ·intro wX hSw
  try dsimp only at hSw
  go_simp
 try simp only [Act.put, List.setIfInBounds_toArray, List.set_cons_zero, List.set_cons_succ]
 refine wpAnyH_take (i := 13) (oi := { dst := some 18, op := Op.binOp BinOp.add 3 (Operand.tmp 15) (Operand.tmp 17) 3, type := 3, pos := _, after := _, guard := none }) (v := .int .i64 (e.t + o.b)) rfl (by kernel_rfl) (by kernel_rfl) (by kernel_rfl) (fun _ _ _ h => h) (Or.inl ⟨by rfl, ?_⟩) (by assumption) ?_
 ·intro wX hSw
  try dsimp only at hSw
  go_simp
 try simp only [Act.put, List.setIfInBounds_toArray, List.set_cons_zero, List.set_cons_succ]
 refine wpAnyH_take (i := 14) (oi := { dst := some 19, op := Op.move (Operand.tmp 0), type := 173, pos := _, after := _, guard := none }) (v := .pointer (some ⟨P, 0, none⟩)) rfl (by kernel_rfl) (by kernel_rfl) (by kernel_rfl) (fun _ _ _ h => h) (Or.inl ⟨by rfl, ?_⟩) (by assumption) ?_
 ·intro wX hSw
  try dsimp only at hSw
  go_simp
 try simp only [Act.put, List.setIfInBounds_toArray, List.set_cons_zero, List.set_cons_succ]
 refine wpAnyH_take (i := 15) (oi := { dst := some 20, op := Op.nilCheck (Operand.tmp 19), type := 0, pos := _, after := _, guard := none }) (v := .pointer (some ⟨P, 0, none⟩)) rfl (by kernel_rfl) (by kernel_rfl) (by kernel_rfl) (fun _ _ _ h => h) (Or.inl ⟨by rfl, ?_⟩) (by assumption) ?_
 ·intro wX hSw
  try dsimp only at hSw
  go_simp
 try simp only [Act.put, List.setIfInBounds_toArray, List.set_cons_zero, List.set_cons_succ]
 refine wpAnyH_take (i := 16) (oi := { dst := some 21, op := Op.fieldAddr 175 (Operand.tmp 20) 2, type := 0, pos := _, after := _, guard := none }) (v := .pointer (some ⟨P, 10, none⟩)) rfl (by kernel_rfl) (by kernel_rfl) (by kernel_rfl) (fun _ _ _ h => h) (Or.inl ⟨by rfl, ?_⟩) (by assumption) ?_
 ·intro wX hSw
  try dsimp only at hSw
  go_simp
 try simp only [Act.put, List.setIfInBounds_toArray, List.set_cons_zero, List.set_cons_succ]
 refine wpAnyH_take (i := 17) (oi := { dst := some 22, op := Op.fieldAddr 53 (Operand.tmp 21) 3, type := 0, pos := _, after := _, guard := none }) (v := .pointer (some ⟨P, 13, none⟩)) rfl (by kernel_rfl) (by kernel_rfl) (by kernel_rfl) (fun _ _ _ h => h) (Or.inl ⟨by rfl, ?_⟩) (by assumption) ?_
 ·intro wX hSw
  try dsimp only at hSw
  go_simp
 try simp only [Act.put, List.setIfInBounds_toArray, List.set_cons_zero, List.set_cons_succ]
 refine wpAnyH_take (i := 18) (oi := { dst := some 23, op := Op.load 3 (Operand.tmp 22), type := 3, pos := _, after := _, guard := none }) (v := .int .i64 e.d) rfl (by kernel_rfl) (by kernel_rfl) (by kernel_rfl) (fun _ _ _ h => h) (Or.inl ⟨by rfl, ?_⟩) (by assumption) ?_
 ·intro wX hSw
  try dsimp only at hSw
  go_simp
 try simp only [Act.put, List.setIfInBounds_toArray, List.set_cons_zero, List.set_cons_succ]
 refine wpAnyH_take (i := 19) (oi := { dst := some 24, op := Op.move (Operand.tmp 0), type := 173, pos := _, after := _, guard := none }) (v := .pointer (some ⟨P, 0, none⟩)) rfl (by kernel_rfl) (by kernel_rfl) (by kernel_rfl) (fun _ _ _ h => h) (Or.inl ⟨by rfl, ?_⟩) (by assumption) ?_
 ·intro wX hSw
  try dsimp only at hSw
  go_simp
 try simp only [Act.put, List.setIfInBounds_toArray, List.set_cons_zero, List.set_cons_succ]
 refine wpAnyH_take (i := 20) (oi := { dst := some 25, op := Op.nilCheck (Operand.tmp 24), type := 0, pos := _, after := _, guard := none }) (v := .pointer (some ⟨P, 0, none⟩)) rfl (by kernel_rfl) (by kernel_rfl) (by kernel_rfl) (fun _ _ _ h => h) (Or.inl ⟨by rfl, ?_⟩) (by assumption) ?_
 ·intro wX hSw
  try dsimp only at hSw
  go_simp
 try simp only [Act.put, List.setIfInBounds_toArray, List.set_cons_zero, List.set_cons_succ]
 refine wpAnyH_take (i := 21) (oi := { dst := some 26, op := Op.fieldAddr 175 (Operand.tmp 25) 3, type := 0, pos := _, after := _, guard := none }) (v := .pointer (some ⟨P, 17, none⟩)) rfl (by kernel_rfl) (by kernel_rfl) (by kernel_rfl) (fun _ _ _ h => h) (Or.inl ⟨by rfl, ?_⟩) (by assumption) ?_
 ·intro wX hSw
  try dsimp only at hSw
  go_simp
 try simp only [Act.put, List.setIfInBounds_toArray, List.set_cons_zero, List.set_cons_succ]
 refine wpAnyH_take (i := 22) (oi := { dst := some 27, op := Op.fieldAddr 154 (Operand.tmp 26) 0, type := 0, pos := _, after := _, guard := none }) (v := .pointer (some ⟨P, 17, none⟩)) rfl (by kernel_rfl) (by kernel_rfl) (by kernel_rfl) (fun _ _ _ h => h) (Or.inl ⟨by rfl, ?_⟩) (by assumption) ?_
 ·intro wX hSw
  try dsimp only at hSw
  go_simp
 try simp only [Act.put, List.setIfInBounds_toArray, List.set_cons_zero, List.set_cons_succ]
 refine wpAnyH_take (i := 23) (oi := { dst := some 28, op := Op.fieldAddr 96 (Operand.tmp 27) 1, type := 0, pos := _, after := _, guard := none }) (v := .pointer (some ⟨P, 18, none⟩)) rfl (by kernel_rfl) (by kernel_rfl) (by kernel_rfl) (fun _ _ _ h => h) (Or.inl ⟨by rfl, ?_⟩) (by assumption) ?_
 ·intro wX hSw
  try dsimp only at hSw
  go_simp
 try simp only [Act.put, List.setIfInBounds_toArray, List.set_cons_zero, List.set_cons_succ]
 refine wpAnyH_take (i := 24) (oi := { dst := some 29, op := Op.load 3 (Operand.tmp 28), type := 3, pos := _, after := _, guard := none }) (v := .int .i64 t.q) rfl (by kernel_rfl) (by kernel_rfl) (by kernel_rfl) (fun _ _ _ h => h) (Or.inl ⟨by rfl, ?_⟩) (by assumption) ?_
 ·intro wX hSw
  try dsimp only at hSw
  go_simp
 try simp only [Act.put, List.setIfInBounds_toArray, List.set_cons_zero, List.set_cons_succ]
 refine wpAnyH_take (i := 25) (oi := { dst := some 30, op := Op.fieldAddr 39 (Operand.tmp 3) 1, type := 0, pos := _, after := _, guard := none }) (v := .pointer (some ⟨w.heap.size, 1, none⟩)) rfl (by kernel_rfl) (by kernel_rfl) (by kernel_rfl) (fun _ _ _ h => h) (Or.inl ⟨by rfl, ?_⟩) (by assumption) ?_
 ·intro wX hSw
  try dsimp only at hSw
  go_simp
 try simp only [Act.put, List.setIfInBounds_toArray, List.set_cons_zero, List.set_cons_succ]
 refine wpAnyH_take (i := 26) (oi := { dst := some 31, op := Op.load 3 (Operand.tmp 30), type := 3, pos := _, after := _, guard := none }) (v := .int .i64 o.a) rfl (by kernel_rfl) (by kernel_rfl) (by kernel_rfl) (fun _ _ _ h => h) (Or.inl ⟨by rfl, ?_⟩) (by assumption) ?_
 ·intro wX hSw
  try dsimp only at hSw
  go_simp
 try simp only [Act.put, List.setIfInBounds_toArray, List.set_cons_zero, List.set_cons_succ]
 refine wpAnyH_take (i := 27) (oi := { dst := some 32, op := Op.fieldAddr 39 (Operand.tmp 3) 3, type := 0, pos := _, after := _, guard := none }) (v := .pointer (some ⟨w.heap.size, 3, none⟩)) rfl (by kernel_rfl) (by kernel_rfl) (by kernel_rfl) (fun _ _ _ h => h) (Or.inl ⟨by rfl, ?_⟩) (by assumption) ?_
 ·intro wX hSw
  try dsimp only at hSw
  go_simp
 try simp only [Act.put, List.setIfInBounds_toArray, List.set_cons_zero, List.set_cons_succ]
 refine wpAnyH_take (i := 28) (oi := { dst := some 33, op := Op.load 3 (Operand.tmp 32), type := 3, pos := _, after := _, guard := none }) (v := .int .i64 o.k) rfl (by kernel_rfl) (by kernel_rfl) (by kernel_rfl) (fun _ _ _ h => h) (Or.inl ⟨by rfl, ?_⟩) (by assumption) ?_
 ·intro wX hSw
  try dsimp only at hSw
  go_simp
 try simp only [Act.put, List.setIfInBounds_toArray, List.set_cons_zero, List.set_cons_succ]
 refine wpAnyH_take (i := 29) (oi := { dst := some 34, op := Op.move (Operand.tmp 0), type := 173, pos := _, after := _, guard := none }) (v := .pointer (some ⟨P, 0, none⟩)) rfl (by kernel_rfl) (by kernel_rfl) (by kernel_rfl) (fun _ _ _ h => h) (Or.inl ⟨by rfl, ?_⟩) (by assumption) ?_
 ·intro wX hSw
  try dsimp only at hSw
  go_simp
 try simp only [Act.put, List.setIfInBounds_toArray, List.set_cons_zero, List.set_cons_succ]
 refine wpAnyH_take (i := 30) (oi := { dst := some 35, op := Op.nilCheck (Operand.tmp 34), type := 0, pos := _, after := _, guard := none }) (v := .pointer (some ⟨P, 0, none⟩)) rfl (by kernel_rfl) (by kernel_rfl) (by kernel_rfl) (fun _ _ _ h => h) (Or.inl ⟨by rfl, ?_⟩) (by assumption) ?_
 ·intro wX hSw
  try dsimp only at hSw
  go_simp
 try simp only [Act.put, List.setIfInBounds_toArray, List.set_cons_zero, List.set_cons_succ]
 refine wpAnyH_take (i := 31) (oi := { dst := some 36, op := Op.fieldAddr 175 (Operand.tmp 35) 3, type := 0, pos := _, after := _, guard := none }) (v := .pointer (some ⟨P, 17, none⟩)) rfl (by kernel_rfl) (by kernel_rfl) (by kernel_rfl) (fun _ _ _ h => h) (Or.inl ⟨by rfl, ?_⟩) (by assumption) ?_
 ·intro wX hSw
  try dsimp only at hSw
  go_simp
 try simp only [Act.put, List.setIfInBounds_toArray, List.set_cons_zero, List.set_cons_succ]
 refine wpAnyH_take (i := 32) (oi := { dst := some 37, op := Op.fieldAddr 154 (Operand.tmp 36) 0, type := 0, pos := _, after := _, guard := none }) (v := .pointer (some ⟨P, 17, none⟩)) rfl (by kernel_rfl) (by kernel_rfl) (by kernel_rfl) (fun _ _ _ h => h) (Or.inl ⟨by rfl, ?_⟩) (by assumption) ?_
 ·intro wX hSw
  try dsimp only at hSw
  go_simp
 try simp only [Act.put, List.setIfInBounds_toArray, List.set_cons_zero, List.set_cons_succ]
 refine wpAnyH_take (i := 33) (oi := { dst := some 38, op := Op.fieldAddr 96 (Operand.tmp 37) 0, type := 0, pos := _, after := _, guard := none }) (v := .pointer (some ⟨P, 17, none⟩)) rfl (by kernel_rfl) (by kernel_rfl) (by kernel_rfl) (fun _ _ _ h => h) (Or.inl ⟨by rfl, ?_⟩) (by assumption) ?_
 ·intro wX hSw
  try dsimp only at hSw
  go_simp
 try simp only [Act.put, List.setIfInBounds_toArray, List.set_cons_zero, List.set_cons_succ]
 refine wpAnyH_take (i := 34) (oi := { dst := some 39, op := Op.load 23 (Operand.tmp 38), type := 23, pos := _, after := _, guard := none }) (v := vReg g cap) rfl (by kernel_rfl) (by kernel_rfl) (by kernel_rfl) (fun _ _ _ h => h) (Or.inl ⟨by rfl, ?_⟩) (by assumption) ?_
 ·intro wX hSw
  try dsimp only at hSw
  go_simp
 try simp only [Act.put, List.setIfInBounds_toArray, List.set_cons_zero, List.set_cons_succ]
 refine wpAnyH_take (i := 35) (oi := { dst := some 40, op := Op.indexAddr 23 (Operand.tmp 39) (Operand.const (Value.int IntKind.i64 0)), type := 0, pos := _, after := _, guard := none }) (v := .pointer (some ⟨g, 0, none⟩)) rfl (by kernel_rfl) (by kernel_rfl) (by kernel_rfl) (fun _ _ _ h => h) (Or.inl ⟨by rfl, ?_⟩) (by assumption) ?_
 ·intro wX hSw
  try dsimp only at hSw
  go_simp
 try simp only [Act.put, List.setIfInBounds_toArray, List.set_cons_zero, List.set_cons_succ]
 refine wpAnyH_take (i := 36) (oi := { dst := some 41, op := Op.load 3 (Operand.tmp 40), type := 3, pos := _, after := _, guard := none }) (v := .int .i64 t.a) rfl (by kernel_rfl) (by kernel_rfl) (by kernel_rfl) (fun _ _ _ h => h) (Or.inl ⟨by rfl, ?_⟩) (by assumption) ?_
 ·intro wX hSw
  try dsimp only at hSw
  go_simp
 try simp only [Act.put, List.setIfInBounds_toArray, List.set_cons_zero, List.set_cons_succ]
 refine wpAnyH_take (i := 37) (oi := { dst := some 42, op := Op.build 53 #[(0, Operand.tmp 18), (1, Operand.tmp 23), (2, Operand.tmp 29), (3, Operand.tmp 31), (4, Operand.tmp 33), (5, Operand.tmp 41)], type := 53, pos := _, after := _, guard := none }) (v := .agg #[.int .i64 (e.t + o.b), .int .i64 e.d, .int .i64 t.q, .int .i64 o.a, .int .i64 o.k, .int .i64 t.a, .int .i64 0]) rfl (by kernel_rfl) (by kernel_rfl) (by kernel_rfl) (fun _ _ _ h => h) (Or.inl ⟨by rfl, ?_⟩) (by assumption) ?_
 ·intro wX hSw
  try dsimp only at hSw
  go_simp
 try simp only [Act.put, List.setIfInBounds_toArray, List.set_cons_zero, List.set_cons_succ]
 refine wpAnyH_ready (rs := [5, 38]) (by kernel_rfl) (by simp) ?_
 refine AllReadyH.cons (o := { dst := some 10, op := Op.load 25 (Operand.tmp 9), type := 25, pos := _, after := _, guard := none }) rfl (fun K hK => ?_) (AllReadyH.cons (o := { dst := some 43, op := Op.buildSlice 25 1 #[(0, Operand.tmp 42)], type := 25, pos := _, after := _, guard := none }) rfl (fun K hK => ?_) AllReadyH.nil)
 ·go_simp
  refine hK.out _ _ HS0.out (fun hHeld => ?_)
  clear hK K
  try simp only [Act.put, List.setIfInBounds_toArray, List.set_cons_zero, List.set_cons_succ]
  refine wpAnyH_ready (rs := [38]) (by kernel_rfl) (by simp) ?_
  refine AllReadyH.cons (o := { dst := some 43, op := Op.buildSlice 25 1 #[(0, Operand.tmp 42)], type := 25, pos := _, after := _, guard := none }) rfl (fun K hK => ?_) AllReadyH.nil
  go_simp
  refine hK.out _ _ HS1.out (fun hHeld => ?_)
  clear hK K
  try simp only [Act.put, List.setIfInBounds_toArray, List.set_cons_zero, List.set_cons_succ]
  refine wpAnyH_ready (rs := [39]) (by kernel_rfl) (by simp) ?_
  refine AllReadyH.cons (o := { dst := some 44, op := Op.call { callee := Callee.builtin Builtin.append, args := #[Operand.tmp 10, Operand.tmp 43], argTypes := #[25, 25] }, type := 25, pos := _, after := _, guard := none }) rfl (fun K hK => ?_) AllReadyH.nil
  refine step_append_own (w := W0.drew.alloc (.cells #[.int .i64 (e.t + o.b), .int .i64 e.d, .int .i64 t.q, .int .i64 o.a, .int .i64 o.k, .int .i64 t.a, .int .i64 0] 53)) rfl (.tmp 10) (.tmp 43) 25 rfl B 53 i0 (.agg #[.int .i64 0, .int .i64 0, .int .i64 0, .int .i64 0, .int .i64 0, .int .i64 0, .int .i64 0]) 7 56 Tryz.underlying25 hi0 hz0 hz1 hz2 rfl (by decide) us t.s.length (cellsL t.s) rfl HE1.out.s ⟨W0.heap.size, 0, none⟩ 1 1 ((sentE e o t).cs) rfl rfl (at_newV W0.drew (sentE e o t)) (ev_ones (sentE e o t)) (by unfold maxLen; omega) (by omega) hsz1 ?_
  intro u3 w3 hown3 hgrow3
  obtain ⟨a3, cq3, hv3⟩ := own_slice hown3
  subst hv3
  have hb3 := HE1.out.blk.grown hgrow3 (HE1.out.blk.off HE1.out.s HE1.out.ty.2.1)
  have kS : w3.cell? ⟨P, 20, none⟩ = some us := hb3.cell (i := 20) rfl
  have fS : w3.frozen? ⟨P, 20, none⟩ = false := hb3.free 20
  have hr3 := HE1.out.r.kept hgrow3 (own_apart HE1.out.r HE1.out.s (by decide))
  have hP3 := HP1.out.grown hgrow3 (HP1.out.off HE1.out.s (by decide))
  have HS3 : Hid (w3.cell? ⟨w.heap.size, 1, none⟩ = some (.int .i64 o.a) ∧ w3.cell? ⟨w.heap.size, 2, none⟩ = some (.int .i64 o.b) ∧ w3.cell? ⟨w.heap.size, 3, none⟩ = some (.int .i64 o.k) ∧ w3.cell? ⟨P, 10, none⟩ = some (.int .i64 e.t) ∧ w3.cell? ⟨P, 13, none⟩ = some (.int .i64 e.d) ∧ w3.cell? ⟨P, 17, none⟩ = some (vReg g cap) ∧ w3.cell? ⟨P, 18, none⟩ = some (.int .i64 t.q) ∧ w3.cell? ⟨g, 0, none⟩ = some (.int .i64 t.a)) := ⟨hP3.cell (i := 1) rfl, hP3.cell (i := 2) rfl, hP3.cell (i := 3) rfl, hb3.cell (i := 10) rfl, hb3.cell (i := 13) rfl, hb3.cell (i := 17) rfl, hb3.cell (i := 18) rfl, hr3.cellAt 0 (by omega)⟩
  have HE4 : Hid (Eff B (w3.setCell ⟨P, 20, none⟩ (.slice a3 (t.s.length + 1) cq3)) P 175 (preT n s z vi vh vs c0 c1 c2 c3 e) { t with s := t.s ++ [(sentE e o t)] } k g cap (.slice a3 (t.s.length + 1) cq3) ux) := HE1.out.sent hown3 hgrow3
  have HE4x : Keeps w3 (w3.setCell ⟨P, 20, none⟩ (.slice a3 (t.s.length + 1) cq3)) := keeps_at hb3 20 _
  have HS4 : Hid ((w3.setCell ⟨P, 20, none⟩ (.slice a3 (t.s.length + 1) cq3)).cell? ⟨w.heap.size, 1, none⟩ = some (.int .i64 o.a) ∧ (w3.setCell ⟨P, 20, none⟩ (.slice a3 (t.s.length + 1) cq3)).cell? ⟨w.heap.size, 2, none⟩ = some (.int .i64 o.b) ∧ (w3.setCell ⟨P, 20, none⟩ (.slice a3 (t.s.length + 1) cq3)).cell? ⟨w.heap.size, 3, none⟩ = some (.int .i64 o.k) ∧ (w3.setCell ⟨P, 20, none⟩ (.slice a3 (t.s.length + 1) cq3)).cell? ⟨P, 10, none⟩ = some (.int .i64 e.t) ∧ (w3.setCell ⟨P, 20, none⟩ (.slice a3 (t.s.length + 1) cq3)).cell? ⟨P, 13, none⟩ = some (.int .i64 e.d) ∧ (w3.setCell ⟨P, 20, none⟩ (.slice a3 (t.s.length + 1) cq3)).cell? ⟨P, 17, none⟩ = some (vReg g cap) ∧ (w3.setCell ⟨P, 20, none⟩ (.slice a3 (t.s.length + 1) cq3)).cell? ⟨P, 18, none⟩ = some (.int .i64 t.q) ∧ (w3.setCell ⟨P, 20, none⟩ (.slice a3 (t.s.length + 1) cq3)).cell? ⟨g, 0, none⟩ = some (.int .i64 t.a)) := ⟨(hP3.other 20 _ hoP).cell (i := 1) rfl, (hP3.other 20 _ hoP).cell (i := 2) rfl, (hP3.other 20 _ hoP).cell (i := 3) rfl, HE4.out.blk.cell (i := 10) rfl, HE4.out.blk.cell (i := 13) rfl, HE4.out.blk.cell (i := 17) rfl, HE4.out.blk.cell (i := 18) rfl, (HE4.out).reg0⟩
  have HB4 : Hid (Below B w (w3.setCell ⟨P, 20, none⟩ (.slice a3 (t.s.length + 1) cq3))) := ((HB.out.drew.alloc hszd _).grown hgrow3 hsz1 (fun k e => row_ge HE1.out.s e)).setCell (p := ⟨P, 20, none⟩) HE1.out.lo _
  have HK4 : Hid (Keeps w (w3.setCell ⟨P, 20, none⟩ (.slice a3 (t.s.length + 1) cq3))) := ((HK.out.trans (keeps_drew W0)).trans (keeps_alloc W0.drew (.cells #[.int .i64 (e.t + o.b), .int .i64 e.d, .int .i64 t.q, .int .i64 o.a, .int .i64 o.k, .int .i64 t.a, .int .i64 0] 53))).trans ((keeps_sent HE1.out.s hgrow3).trans (fun K T vs hT hb => (HE4x K T vs hT hb)))
  refine hK.out _ _ HS3.out (fun hHeld => ?_)
  clear hK K
  try simp only [Act.put, List.setIfInBounds_toArray, List.set_cons_zero, List.set_cons_succ]
  refine wpAnyH_take (i := 40) (oi := { dst := some 45, op := Op.nilCheck (Operand.tmp 5), type := 0, pos := _, after := _, guard := none }) (v := .pointer (some ⟨P, 0, none⟩)) rfl (by kernel_rfl) (by kernel_rfl) (by kernel_rfl) (fun _ _ _ h => h) (Or.inl ⟨by rfl, ?_⟩) (by assumption) ?_
  ·intro wX hSw
   try dsimp only at hSw
   go_simp
  try simp only [Act.put, List.setIfInBounds_toArray, List.set_cons_zero, List.set_cons_succ]
  refine wpAnyH_take (i := 41) (oi := { dst := some 46, op := Op.fieldAddr 175 (Operand.tmp 45) 3, type := 0, pos := _, after := _, guard := none }) (v := .pointer (some ⟨P, 17, none⟩)) rfl (by kernel_rfl) (by kernel_rfl) (by kernel_rfl) (fun _ _ _ h => h) (Or.inl ⟨by rfl, ?_⟩) (by assumption) ?_
  ·intro wX hSw
   try dsimp only at hSw
   go_simp
  try simp only [Act.put, List.setIfInBounds_toArray, List.set_cons_zero, List.set_cons_succ]
  refine wpAnyH_take (i := 42) (oi := { dst := some 47, op := Op.fieldAddr 154 (Operand.tmp 46) 1, type := 0, pos := _, after := _, guard := none }) (v := .pointer (some ⟨P, 20, none⟩)) rfl (by kernel_rfl) (by kernel_rfl) (by kernel_rfl) (fun _ _ _ h => h) (Or.inl ⟨by rfl, ?_⟩) (by assumption) ?_
  ·intro wX hSw
   try dsimp only at hSw
   go_simp
  try simp only [Act.put, List.setIfInBounds_toArray, List.set_cons_zero, List.set_cons_succ]
  refine wpAnyH_ready (rs := [43]) (by kernel_rfl) (by simp) ?_
  refine AllReadyH.cons (o := { dst := none, op := Op.store 25 (Operand.tmp 47) (Operand.tmp 44), type := 0, pos := _, after := _, guard := none }) rfl (fun K hK => ?_) AllReadyH.nil
  go_simp
  refine hK.out _ _ HS4.out (fun hHeld => ?_)
  clear hK K
  try simp only [Act.put, List.setIfInBounds_toArray, List.set_cons_zero, List.set_cons_succ]
  refine wpAnyH_done (by kernel_rfl) ?_ _
  clear HE4x hS hSb kS fS HS0 HS1 HS3 HS4 hown3 hgrow3 hb3 hr3 hP3
  generalize w3.setCell ⟨P, 20, none⟩ (.slice a3 (t.s.length + 1) cq3) = V at HE4 HB4 HK4 ⊢
  have q18 : V.cell? ⟨P, 18, none⟩ = some (.int .i64 t.q) := HE4.out.blk.cell (i := 18) rfl
  have f18 : V.frozen? ⟨P, 18, none⟩ = false := HE4.out.blk.free 18
  go_wp2
  go_ret
  exact ⟨rfl, ⟨g, cap, _, ux, HE4.out.putQ (t.q + 1)⟩, HB4.out.setCell (p := ⟨P, 18, none⟩) HE4.out.lo _, HK4.out.trans (HE4.out.keepP 18 _)⟩
 ·go_simp
  refine hK.out _ _ HS1.out (fun hHeld => ?_)
  clear hK K
  try simp only [Act.put, List.setIfInBounds_toArray, List.set_cons_zero, List.set_cons_succ]
  refine wpAnyH_ready (rs := [5]) (by kernel_rfl) (by simp) ?_
  refine AllReadyH.cons (o := { dst := some 10, op := Op.load 25 (Operand.tmp 9), type := 25, pos := _, after := _, guard := none }) rfl (fun K hK => ?_) AllReadyH.nil
  go_simp
  refine hK.out _ _ HS1.out (fun hHeld => ?_)
  clear hK K
  try simp only [Act.put, List.setIfInBounds_toArray, List.set_cons_zero, List.set_cons_succ]
  refine wpAnyH_ready (rs := [39]) (by kernel_rfl) (by simp) ?_
  refine AllReadyH.cons (o := { dst := some 44, op := Op.call { callee := Callee.builtin Builtin.append, args := #[Operand.tmp 10, Operand.tmp 43], argTypes := #[25, 25] }, type := 25, pos := _, after := _, guard := none }) rfl (fun K hK => ?_) AllReadyH.nil
  refine step_append_own (w := W0.drew.alloc (.cells #[.int .i64 (e.t + o.b), .int .i64 e.d, .int .i64 t.q, .int .i64 o.a, .int .i64 o.k, .int .i64 t.a, .int .i64 0] 53)) rfl (.tmp 10) (.tmp 43) 25 rfl B 53 i0 (.agg #[.int .i64 0, .int .i64 0, .int .i64 0, .int .i64 0, .int .i64 0, .int .i64 0, .int .i64 0]) 7 56 Tryz.underlying25 hi0 hz0 hz1 hz2 rfl (by decide) us t.s.length (cellsL t.s) rfl HE1.out.s ⟨W0.heap.size, 0, none⟩ 1 1 ((sentE e o t).cs) rfl rfl (at_newV W0.drew (sentE e o t)) (ev_ones (sentE e o t)) (by unfold maxLen; omega) (by omega) hsz1 ?_
  intro u3 w3 hown3 hgrow3
  obtain ⟨a3, cq3, hv3⟩ := own_slice hown3
  subst hv3
  have hb3 := HE1.out.blk.grown hgrow3 (HE1.out.blk.off HE1.out.s HE1.out.ty.2.1)
  have kS : w3.cell? ⟨P, 20, none⟩ = some us := hb3.cell (i := 20) rfl
  have fS : w3.frozen? ⟨P, 20, none⟩ = false := hb3.free 20
  have hr3 := HE1.out.r.kept hgrow3 (own_apart HE1.out.r HE1.out.s (by decide))
  have hP3 := HP1.out.grown hgrow3 (HP1.out.off HE1.out.s (by decide))
  have HS3 : Hid (w3.cell? ⟨w.heap.size, 1, none⟩ = some (.int .i64 o.a) ∧ w3.cell? ⟨w.heap.size, 2, none⟩ = some (.int .i64 o.b) ∧ w3.cell? ⟨w.heap.size, 3, none⟩ = some (.int .i64 o.k) ∧ w3.cell? ⟨P, 10, none⟩ = some (.int .i64 e.t) ∧ w3.cell? ⟨P, 13, none⟩ = some (.int .i64 e.d) ∧ w3.cell? ⟨P, 17, none⟩ = some (vReg g cap) ∧ w3.cell? ⟨P, 18, none⟩ = some (.int .i64 t.q) ∧ w3.cell? ⟨g, 0, none⟩ = some (.int .i64 t.a)) := ⟨hP3.cell (i := 1) rfl, hP3.cell (i := 2) rfl, hP3.cell (i := 3) rfl, hb3.cell (i := 10) rfl, hb3.cell (i := 13) rfl, hb3.cell (i := 17) rfl, hb3.cell (i := 18) rfl, hr3.cellAt 0 (by omega)⟩
  have HE4 : Hid (Eff B (w3.setCell ⟨P, 20, none⟩ (.slice a3 (t.s.length + 1) cq3)) P 175 (preT n s z vi vh vs c0 c1 c2 c3 e) { t with s := t.s ++ [(sentE e o t)] } k g cap (.slice a3 (t.s.length + 1) cq3) ux) := HE1.out.sent hown3 hgrow3
  have HE4x : Keeps w3 (w3.setCell ⟨P, 20, none⟩ (.slice a3 (t.s.length + 1) cq3)) := keeps_at hb3 20 _
  have HS4 : Hid ((w3.setCell ⟨P, 20, none⟩ (.slice a3 (t.s.length + 1) cq3)).cell? ⟨w.heap.size, 1, none⟩ = some (.int .i64 o.a) ∧ (w3.setCell ⟨P, 20, none⟩ (.slice a3 (t.s.length + 1) cq3)).cell? ⟨w.heap.size, 2, none⟩ = some (.int .i64 o.b) ∧ (w3.setCell ⟨P, 20, none⟩ (.slice a3 (t.s.length + 1) cq3)).cell? ⟨w.heap.size, 3, none⟩ = some (.int .i64 o.k) ∧ (w3.setCell ⟨P, 20, none⟩ (.slice a3 (t.s.length + 1) cq3)).cell? ⟨P, 10, none⟩ = some (.int .i64 e.t) ∧ (w3.setCell ⟨P, 20, none⟩ (.slice a3 (t.s.length + 1) cq3)).cell? ⟨P, 13, none⟩ = some (.int .i64 e.d) ∧ (w3.setCell ⟨P, 20, none⟩ (.slice a3 (t.s.length + 1) cq3)).cell? ⟨P, 17, none⟩ = some (vReg g cap) ∧ (w3.setCell ⟨P, 20, none⟩ (.slice a3 (t.s.length + 1) cq3)).cell? ⟨P, 18, none⟩ = some (.int .i64 t.q) ∧ (w3.setCell ⟨P, 20, none⟩ (.slice a3 (t.s.length + 1) cq3)).cell? ⟨g, 0, none⟩ = some (.int .i64 t.a)) := ⟨(hP3.other 20 _ hoP).cell (i := 1) rfl, (hP3.other 20 _ hoP).cell (i := 2) rfl, (hP3.other 20 _ hoP).cell (i := 3) rfl, HE4.out.blk.cell (i := 10) rfl, HE4.out.blk.cell (i := 13) rfl, HE4.out.blk.cell (i := 17) rfl, HE4.out.blk.cell (i := 18) rfl, (HE4.out).reg0⟩
  have HB4 : Hid (Below B w (w3.setCell ⟨P, 20, none⟩ (.slice a3 (t.s.length + 1) cq3))) := ((HB.out.drew.alloc hszd _).grown hgrow3 hsz1 (fun k e => row_ge HE1.out.s e)).setCell (p := ⟨P, 20, none⟩) HE1.out.lo _
  have HK4 : Hid (Keeps w (w3.setCell ⟨P, 20, none⟩ (.slice a3 (t.s.length + 1) cq3))) := ((HK.out.trans (keeps_drew W0)).trans (keeps_alloc W0.drew (.cells #[.int .i64 (e.t + o.b), .int .i64 e.d, .int .i64 t.q, .int .i64 o.a, .int .i64 o.k, .int .i64 t.a, .int .i64 0] 53))).trans ((keeps_sent HE1.out.s hgrow3).trans (fun K T vs hT hb => (HE4x K T vs hT hb)))
  refine hK.out _ _ HS3.out (fun hHeld => ?_)
  clear hK K
  try simp only [Act.put, List.setIfInBounds_toArray, List.set_cons_zero, List.set_cons_succ]
  refine wpAnyH_take (i := 40) (oi := { dst := some 45, op := Op.nilCheck (Operand.tmp 5), type := 0, pos := _, after := _, guard := none }) (v := .pointer (some ⟨P, 0, none⟩)) rfl (by kernel_rfl) (by kernel_rfl) (by kernel_rfl) (fun _ _ _ h => h) (Or.inl ⟨by rfl, ?_⟩) (by assumption) ?_
  ·intro wX hSw
   try dsimp only at hSw
   go_simp
  try simp only [Act.put, List.setIfInBounds_toArray, List.set_cons_zero, List.set_cons_succ]
  refine wpAnyH_take (i := 41) (oi := { dst := some 46, op := Op.fieldAddr 175 (Operand.tmp 45) 3, type := 0, pos := _, after := _, guard := none }) (v := .pointer (some ⟨P, 17, none⟩)) rfl (by kernel_rfl) (by kernel_rfl) (by kernel_rfl) (fun _ _ _ h => h) (Or.inl ⟨by rfl, ?_⟩) (by assumption) ?_
  ·intro wX hSw
   try dsimp only at hSw
   go_simp
  try simp only [Act.put, List.setIfInBounds_toArray, List.set_cons_zero, List.set_cons_succ]
  refine wpAnyH_take (i := 42) (oi := { dst := some 47, op := Op.fieldAddr 154 (Operand.tmp 46) 1, type := 0, pos := _, after := _, guard := none }) (v := .pointer (some ⟨P, 20, none⟩)) rfl (by kernel_rfl) (by kernel_rfl) (by kernel_rfl) (fun _ _ _ h => h) (Or.inl ⟨by rfl, ?_⟩) (by assumption) ?_
  ·intro wX hSw
   try dsimp only at hSw
   go_simp
  try simp only [Act.put, List.setIfInBounds_toArray, List.set_cons_zero, List.set_cons_succ]
  refine wpAnyH_ready (rs := [43]) (by kernel_rfl) (by simp) ?_
  refine AllReadyH.cons (o := { dst := none, op := Op.store 25 (Operand.tmp 47) (Operand.tmp 44), type := 0, pos := _, after := _, guard := none }) rfl (fun K hK => ?_) AllReadyH.nil
  go_simp
  refine hK.out _ _ HS4.out (fun hHeld => ?_)
  clear hK K
  try simp only [Act.put, List.setIfInBounds_toArray, List.set_cons_zero, List.set_cons_succ]
  refine wpAnyH_done (by kernel_rfl) ?_ _
  clear HE4x hS hSb kS fS HS0 HS1 HS3 HS4 hown3 hgrow3 hb3 hr3 hP3
  generalize w3.setCell ⟨P, 20, none⟩ (.slice a3 (t.s.length + 1) cq3) = V at HE4 HB4 HK4 ⊢
  have q18 : V.cell? ⟨P, 18, none⟩ = some (.int .i64 t.q) := HE4.out.blk.cell (i := 18) rfl
  have f18 : V.frozen? ⟨P, 18, none⟩ = false := HE4.out.blk.free 18
  go_wp2
  go_ret
  exact ⟨rfl, ⟨g, cap, _, ux, HE4.out.putQ (t.q + 1)⟩, HB4.out.setCell (p := ⟨P, 18, none⟩) HE4.out.lo _, HK4.out.trans (HE4.out.keepP 18 _)⟩
end Go.Proofs.YtbljfphdghfkfaaGreatDoor
