/- The specification's TableRead. -/
import Derived.Test.YtacgdmojhhdegaaExactTableReadG05
import Derived.Deep.RegionHeld3
namespace Go.Proofs.Ytacgdmojhhdegaa
open Go.RowKit
set_option maxRecDepth 100000 in
set_option maxHeartbeats 16000000 in
theorem sRead (x : Value) (l : List UInt8) (w : World) (hl : l.length ≤ 1048576) (h : By.IsI w x l) :
    Calls Try.prog 14 #[x] w fun e w' => ∃ u, e = .returned (.tuple #[u, .bool (rdB l)]) ∧ OwnD w' (fun k => w.heap.size ≤ k ∧ k < w'.heap.size) u (emsD (rdR l)) ∧ Below w.heap.size w w' := by
  obtain ⟨a, cap, rfl, h1, h2, h3⟩ := h
  have H3 : Hid (l = [] ∨ ∃ b off, a = some ⟨b, off, none⟩ ∧ By.IntsAt w b off l) := h3
  clear h1 h2 h3
  obtain ⟨ix, hx0, hx1, hx2, hx3⟩ := info_parts infoEm
  obtain ⟨B, hB⟩ : ∃ B, B = w.heap.size := ⟨_, rfl⟩
  have hBw : B ≤ w.heap.size ∧ w.heap.size ≤ B := by omega
  clear hB
  by_cases h5 : l.length % 5 = 0
  case neg =>
    have HN : Hid (rdB l = false ∧ rdR l = []) := rd_no5 h5
    have h5' : ¬ ((l.length : Int) % 5 = 0) := by omega
    clear h5
    go_enter Try.func14, Try.ntmps14
    go_wp2
    go_ret2
    exact ⟨_, by rw [HN.out.1]; rfl, by rw [HN.out.2]; exact ((RowX.nil w.heap.size w).own), Below.refl _ _⟩
  have h5' : ((l.length : Int) % 5 = 0) := by omega
  obtain ⟨n, hn⟩ : ∃ n, l.length = 5 * n := ⟨l.length / 5, by omega⟩
  have HN : Hid (l.length = 5 * n ∧ l.length / 5 = n ∧ l.length % 5 = 0) := ⟨hn, by omega, h5⟩
  have hn9 : 5 * n ≤ l.length ∧ l.length ≤ 5 * n := by omega
  clear hn h5
  go_enter Try.func14, Try.ntmps14
  go_wp2
  clear h5'
  go_loopw [4, 5] (fun o i wr => ∃ (k : Nat) (v : Value), k ≤ n ∧ v = o ∧ i = .int .i64 ((5 * k : Nat) : Int) ∧ Hid (∀ j, j < k → (emR l (5 * j)).okB = true) ∧ RowX B wr o (readL l k) ∧ Below B w wr) (fun _ i _ => l.length - (intOf i).toNat)
  case atStart => exact ⟨0, _, Nat.zero_le _, rfl, rfl, fun j hj => by omega, RowX.nil _ _, Below.refl _ _⟩
  case round =>
    obtain ⟨k, o, hk, rfl, rfl, HA, hR, hBr⟩ := hrel
    have HR1 : Hid (RowX B wr o (readL l k)) := hR
    have HB1 : Hid (Below B w wr) := hBr
    have hs1 : B ≤ wr.heap.size := Nat.le_trans hBw.1 hBr.size
    have hlk : (readL l k).length = k := readL_length l k
    clear hR
    by_cases hlt : k < n
    · obtain ⟨b, off, rfl, hb0, hc⟩ := H3.out.resolve_left (by intro e; rw [e] at hn9; simp at hn9; omega)
      have hb : b < B := Nat.lt_of_lt_of_le hb0 hBw.2
      have HNO : Hid ((emR l (5 * k)).okB = false → emsC (readL l (l.length / 5)) = false) := fun h => by unfold emsC; rw [HN.out.2.1, readL_length]; exact all_no hlt (by rw [readL_at l n k hlt, h])
      have HE : Hid (readL l (k + 1) = readL l k ++ [emR l (5 * k)] ∧ emR l (5 * k) = ⟨by8 l (5 * k) * 256 + by8 l (5 * k + 1), by8 l (5 * k + 2), by8 l (5 * k + 3) * 256 + by8 l (5 * k + 4)⟩) := ⟨rfl, rfl⟩
      have c0 : wr.cell? ⟨b, off + 5 * k, none⟩ = some (.int .u8 (by8 l (5 * k))) := (hBr.cell (p := ⟨b, _, none⟩) hb).trans (hc (5 * k) (by omega))
      have c1 : wr.cell? ⟨b, off + (5 * k + 1), none⟩ = some (.int .u8 (by8 l (5 * k + 1))) := (hBr.cell (p := ⟨b, _, none⟩) hb).trans (hc (5 * k + 1) (by omega))
      have c2 : wr.cell? ⟨b, off + (5 * k + 2), none⟩ = some (.int .u8 (by8 l (5 * k + 2))) := (hBr.cell (p := ⟨b, _, none⟩) hb).trans (hc (5 * k + 2) (by omega))
      have c3 : wr.cell? ⟨b, off + (5 * k + 3), none⟩ = some (.int .u8 (by8 l (5 * k + 3))) := (hBr.cell (p := ⟨b, _, none⟩) hb).trans (hc (5 * k + 3) (by omega))
      have c4 : wr.cell? ⟨b, off + (5 * k + 4), none⟩ = some (.int .u8 (by8 l (5 * k + 4))) := (hBr.cell (p := ⟨b, _, none⟩) hb).trans (hc (5 * k + 4) (by omega))
      have b0 := by8_low l (5 * k)
      have b1 := by8_low l (5 * k + 1)
      have b2 := by8_low l (5 * k + 2)
      have b3 := by8_low l (5 * k + 3)
      have b4 := by8_low l (5 * k + 4)
      clear hc hBr HN
      generalize by8 l (5 * k) = y0 at *
      generalize by8 l (5 * k + 1) = y1 at *
      generalize by8 l (5 * k + 2) = y2 at *
      generalize by8 l (5 * k + 3) = y3 at *
      generalize by8 l (5 * k + 4) = y4 at *
      obtain ⟨p, hp⟩ : ∃ p, 5 * k = p := ⟨_, rfl⟩
      have HP : Hid (5 * k = p) := hp
      have hp1 : p + 5 ≤ l.length := by omega
      have hp2 : p ≤ 5 * k ∧ 5 * k ≤ p := by omega
      rw [hp] at c0 c1 c2 c3 c4 ⊢
      clear hp
      have HS0 : Hid (wr.drew.cell? ⟨b, off + p, none⟩ = some (.int .u8 y0) ∧ wr.drew.cell? ⟨b, off + (p + 1), none⟩ = some (.int .u8 y1) ∧ wr.drew.cell? ⟨b, off + (p + 2), none⟩ = some (.int .u8 y2) ∧ wr.drew.cell? ⟨b, off + (p + 3), none⟩ = some (.int .u8 y3) ∧ wr.drew.cell? ⟨b, off + (p + 4), none⟩ = some (.int .u8 y4)) := ⟨c0, c1, c2, c3, c4⟩
      go_wp2_with fail
      refine wp_region_held_drew (S := fun W => W.cell? ⟨b, off + p, none⟩ = some (.int .u8 y0) ∧ W.cell? ⟨b, off + (p + 1), none⟩ = some (.int .u8 y1) ∧ W.cell? ⟨b, off + (p + 2), none⟩ = some (.int .u8 y2) ∧ W.cell? ⟨b, off + (p + 3), none⟩ = some (.int .u8 y3) ∧ W.cell? ⟨b, off + (p + 4), none⟩ = some (.int .u8 y4)) (by kernel_rfl) HS0.out (fun hHeld => ?_)
      refine wpAnyH_take (i := 0) (oi := { dst := some 17, op := Op.move (Operand.tmp 0), type := 24, pos := _, after := _, guard := none }) (v := .slice (some ⟨b, off, none⟩) l.length cap) rfl (by kernel_rfl) (by kernel_rfl) (by kernel_rfl) (fun _ _ _ h => h) (Or.inl ⟨by rfl, ?_⟩) (by assumption) ?_
      · intro wX hSw
        try dsimp only at hSw
        go_simp
        try exact IntWalk.i64_in _ (by omega)
      try simp only [Act.put, List.setIfInBounds_toArray, List.set_cons_zero, List.set_cons_succ]
      refine wpAnyH_take (i := 1) (oi := { dst := some 18, op := Op.move (Operand.tmp 5), type := 3, pos := _, after := _, guard := none }) (v := .int .i64 (p : Int)) rfl (by kernel_rfl) (by kernel_rfl) (by kernel_rfl) (fun _ _ _ h => h) (Or.inl ⟨by rfl, ?_⟩) (by assumption) ?_
      · intro wX hSw
        try dsimp only at hSw
        go_simp
        try exact IntWalk.i64_in _ (by omega)
      try simp only [Act.put, List.setIfInBounds_toArray, List.set_cons_zero, List.set_cons_succ]
      refine wpAnyH_take (i := 2) (oi := { dst := some 19, op := Op.indexAddr 24 (Operand.tmp 17) (Operand.tmp 18), type := 0, pos := _, after := _, guard := none }) (v := .pointer (some ⟨b, off + p, none⟩)) rfl (by kernel_rfl) (by kernel_rfl) (by kernel_rfl) (fun _ _ _ h => h) (Or.inl ⟨by rfl, ?_⟩) (by assumption) ?_
      · intro wX hSw
        try dsimp only at hSw
        go_simp
        try exact IntWalk.i64_in _ (by omega)
        all_goals first | (intro hh; exfalso; omega) | (rw [if_pos (by omega), show ((p : Int) + 1).toNat = p + 1 by omega]) | (rw [if_pos (by omega), show ((p : Int) + 2).toNat = p + 2 by omega]) | (rw [if_pos (by omega), show ((p : Int) + 3).toNat = p + 3 by omega]) | (rw [if_pos (by omega), show ((p : Int) + 4).toNat = p + 4 by omega])
      try simp only [Act.put, List.setIfInBounds_toArray, List.set_cons_zero, List.set_cons_succ]
      refine wpAnyH_take (i := 3) (oi := { dst := some 20, op := Op.load 5 (Operand.tmp 19), type := 5, pos := _, after := _, guard := none }) (v := .int .u8 y0) rfl (by kernel_rfl) (by kernel_rfl) (by kernel_rfl) (fun _ _ _ h => h) (Or.inl ⟨by rfl, ?_⟩) (by assumption) ?_
      · intro wX hSw
        try dsimp only at hSw
        go_simp
        try exact IntWalk.i64_in _ (by omega)
      try simp only [Act.put, List.setIfInBounds_toArray, List.set_cons_zero, List.set_cons_succ]
      refine wpAnyH_take (i := 6) (oi := { dst := some 23, op := Op.move (Operand.tmp 0), type := 24, pos := _, after := _, guard := none }) (v := .slice (some ⟨b, off, none⟩) l.length cap) rfl (by kernel_rfl) (by kernel_rfl) (by kernel_rfl) (fun _ _ _ h => h) (Or.inl ⟨by rfl, ?_⟩) (by assumption) ?_
      · intro wX hSw
        try dsimp only at hSw
        go_simp
        try exact IntWalk.i64_in _ (by omega)
      try simp only [Act.put, List.setIfInBounds_toArray, List.set_cons_zero, List.set_cons_succ]
      refine wpAnyH_take (i := 7) (oi := { dst := some 24, op := Op.move (Operand.tmp 5), type := 3, pos := _, after := _, guard := none }) (v := .int .i64 (p : Int)) rfl (by kernel_rfl) (by kernel_rfl) (by kernel_rfl) (fun _ _ _ h => h) (Or.inl ⟨by rfl, ?_⟩) (by assumption) ?_
      · intro wX hSw
        try dsimp only at hSw
        go_simp
        try exact IntWalk.i64_in _ (by omega)
      try simp only [Act.put, List.setIfInBounds_toArray, List.set_cons_zero, List.set_cons_succ]
      refine wpAnyH_take (i := 8) (oi := { dst := some 25, op := Op.binOp BinOp.add 3 (Operand.tmp 24) (Operand.const (Value.int IntKind.i64 1)) 3, type := 3, pos := _, after := _, guard := none }) (v := .int .i64 ((p : Int) + 1)) rfl (by kernel_rfl) (by kernel_rfl) (by kernel_rfl) (fun _ _ _ h => h) (Or.inl ⟨by rfl, ?_⟩) (by assumption) ?_
      · intro wX hSw
        try dsimp only at hSw
        go_simp
        try exact IntWalk.i64_in _ (by omega)
      try simp only [Act.put, List.setIfInBounds_toArray, List.set_cons_zero, List.set_cons_succ]
      refine wpAnyH_take (i := 9) (oi := { dst := some 26, op := Op.indexAddr 24 (Operand.tmp 23) (Operand.tmp 25), type := 0, pos := _, after := _, guard := none }) (v := .pointer (some ⟨b, off + (p + 1), none⟩)) rfl (by kernel_rfl) (by kernel_rfl) (by kernel_rfl) (fun _ _ _ h => h) (Or.inl ⟨by rfl, ?_⟩) (by assumption) ?_
      · intro wX hSw
        try dsimp only at hSw
        go_simp
        try exact IntWalk.i64_in _ (by omega)
        all_goals first | (intro hh; exfalso; omega) | (rw [if_pos (by omega), show ((p : Int) + 1).toNat = p + 1 by omega]) | (rw [if_pos (by omega), show ((p : Int) + 2).toNat = p + 2 by omega]) | (rw [if_pos (by omega), show ((p : Int) + 3).toNat = p + 3 by omega]) | (rw [if_pos (by omega), show ((p : Int) + 4).toNat = p + 4 by omega])
      try simp only [Act.put, List.setIfInBounds_toArray, List.set_cons_zero, List.set_cons_succ]
      refine wpAnyH_take (i := 10) (oi := { dst := some 27, op := Op.load 5 (Operand.tmp 26), type := 5, pos := _, after := _, guard := none }) (v := .int .u8 y1) rfl (by kernel_rfl) (by kernel_rfl) (by kernel_rfl) (fun _ _ _ h => h) (Or.inl ⟨by rfl, ?_⟩) (by assumption) ?_
      · intro wX hSw
        try dsimp only at hSw
        go_simp
        try exact IntWalk.i64_in _ (by omega)
      try simp only [Act.put, List.setIfInBounds_toArray, List.set_cons_zero, List.set_cons_succ]
      refine wpAnyH_take (i := 13) (oi := { dst := some 30, op := Op.move (Operand.tmp 0), type := 24, pos := _, after := _, guard := none }) (v := .slice (some ⟨b, off, none⟩) l.length cap) rfl (by kernel_rfl) (by kernel_rfl) (by kernel_rfl) (fun _ _ _ h => h) (Or.inl ⟨by rfl, ?_⟩) (by assumption) ?_
      · intro wX hSw
        try dsimp only at hSw
        go_simp
        try exact IntWalk.i64_in _ (by omega)
      try simp only [Act.put, List.setIfInBounds_toArray, List.set_cons_zero, List.set_cons_succ]
      refine wpAnyH_take (i := 14) (oi := { dst := some 31, op := Op.move (Operand.tmp 5), type := 3, pos := _, after := _, guard := none }) (v := .int .i64 (p : Int)) rfl (by kernel_rfl) (by kernel_rfl) (by kernel_rfl) (fun _ _ _ h => h) (Or.inl ⟨by rfl, ?_⟩) (by assumption) ?_
      · intro wX hSw
        try dsimp only at hSw
        go_simp
        try exact IntWalk.i64_in _ (by omega)
      try simp only [Act.put, List.setIfInBounds_toArray, List.set_cons_zero, List.set_cons_succ]
      refine wpAnyH_take (i := 15) (oi := { dst := some 32, op := Op.binOp BinOp.add 3 (Operand.tmp 31) (Operand.const (Value.int IntKind.i64 2)) 3, type := 3, pos := _, after := _, guard := none }) (v := .int .i64 ((p : Int) + 2)) rfl (by kernel_rfl) (by kernel_rfl) (by kernel_rfl) (fun _ _ _ h => h) (Or.inl ⟨by rfl, ?_⟩) (by assumption) ?_
      · intro wX hSw
        try dsimp only at hSw
        go_simp
        try exact IntWalk.i64_in _ (by omega)
      try simp only [Act.put, List.setIfInBounds_toArray, List.set_cons_zero, List.set_cons_succ]
      refine wpAnyH_take (i := 16) (oi := { dst := some 33, op := Op.indexAddr 24 (Operand.tmp 30) (Operand.tmp 32), type := 0, pos := _, after := _, guard := none }) (v := .pointer (some ⟨b, off + (p + 2), none⟩)) rfl (by kernel_rfl) (by kernel_rfl) (by kernel_rfl) (fun _ _ _ h => h) (Or.inl ⟨by rfl, ?_⟩) (by assumption) ?_
      · intro wX hSw
        try dsimp only at hSw
        go_simp
        try exact IntWalk.i64_in _ (by omega)
        all_goals first | (intro hh; exfalso; omega) | (rw [if_pos (by omega), show ((p : Int) + 1).toNat = p + 1 by omega]) | (rw [if_pos (by omega), show ((p : Int) + 2).toNat = p + 2 by omega]) | (rw [if_pos (by omega), show ((p : Int) + 3).toNat = p + 3 by omega]) | (rw [if_pos (by omega), show ((p : Int) + 4).toNat = p + 4 by omega])
      try simp only [Act.put, List.setIfInBounds_toArray, List.set_cons_zero, List.set_cons_succ]
      refine wpAnyH_take (i := 17) (oi := { dst := some 34, op := Op.load 5 (Operand.tmp 33), type := 5, pos := _, after := _, guard := none }) (v := .int .u8 y2) rfl (by kernel_rfl) (by kernel_rfl) (by kernel_rfl) (fun _ _ _ h => h) (Or.inl ⟨by rfl, ?_⟩) (by assumption) ?_
      · intro wX hSw
        try dsimp only at hSw
        go_simp
        try exact IntWalk.i64_in _ (by omega)
      try simp only [Act.put, List.setIfInBounds_toArray, List.set_cons_zero, List.set_cons_succ]
      refine wpAnyH_take (i := 19) (oi := { dst := some 36, op := Op.move (Operand.tmp 0), type := 24, pos := _, after := _, guard := none }) (v := .slice (some ⟨b, off, none⟩) l.length cap) rfl (by kernel_rfl) (by kernel_rfl) (by kernel_rfl) (fun _ _ _ h => h) (Or.inl ⟨by rfl, ?_⟩) (by assumption) ?_
      · intro wX hSw
        try dsimp only at hSw
        go_simp
        try exact IntWalk.i64_in _ (by omega)
      try simp only [Act.put, List.setIfInBounds_toArray, List.set_cons_zero, List.set_cons_succ]
      refine wpAnyH_take (i := 20) (oi := { dst := some 37, op := Op.move (Operand.tmp 5), type := 3, pos := _, after := _, guard := none }) (v := .int .i64 (p : Int)) rfl (by kernel_rfl) (by kernel_rfl) (by kernel_rfl) (fun _ _ _ h => h) (Or.inl ⟨by rfl, ?_⟩) (by assumption) ?_
      · intro wX hSw
        try dsimp only at hSw
        go_simp
        try exact IntWalk.i64_in _ (by omega)
      try simp only [Act.put, List.setIfInBounds_toArray, List.set_cons_zero, List.set_cons_succ]
      refine wpAnyH_take (i := 21) (oi := { dst := some 38, op := Op.binOp BinOp.add 3 (Operand.tmp 37) (Operand.const (Value.int IntKind.i64 3)) 3, type := 3, pos := _, after := _, guard := none }) (v := .int .i64 ((p : Int) + 3)) rfl (by kernel_rfl) (by kernel_rfl) (by kernel_rfl) (fun _ _ _ h => h) (Or.inl ⟨by rfl, ?_⟩) (by assumption) ?_
      · intro wX hSw
        try dsimp only at hSw
        go_simp
        try exact IntWalk.i64_in _ (by omega)
      try simp only [Act.put, List.setIfInBounds_toArray, List.set_cons_zero, List.set_cons_succ]
      refine wpAnyH_take (i := 22) (oi := { dst := some 39, op := Op.indexAddr 24 (Operand.tmp 36) (Operand.tmp 38), type := 0, pos := _, after := _, guard := none }) (v := .pointer (some ⟨b, off + (p + 3), none⟩)) rfl (by kernel_rfl) (by kernel_rfl) (by kernel_rfl) (fun _ _ _ h => h) (Or.inl ⟨by rfl, ?_⟩) (by assumption) ?_
      · intro wX hSw
        try dsimp only at hSw
        go_simp
        try exact IntWalk.i64_in _ (by omega)
        all_goals first | (intro hh; exfalso; omega) | (rw [if_pos (by omega), show ((p : Int) + 1).toNat = p + 1 by omega]) | (rw [if_pos (by omega), show ((p : Int) + 2).toNat = p + 2 by omega]) | (rw [if_pos (by omega), show ((p : Int) + 3).toNat = p + 3 by omega]) | (rw [if_pos (by omega), show ((p : Int) + 4).toNat = p + 4 by omega])
      try simp only [Act.put, List.setIfInBounds_toArray, List.set_cons_zero, List.set_cons_succ]
      refine wpAnyH_take (i := 23) (oi := { dst := some 40, op := Op.load 5 (Operand.tmp 39), type := 5, pos := _, after := _, guard := none }) (v := .int .u8 y3) rfl (by kernel_rfl) (by kernel_rfl) (by kernel_rfl) (fun _ _ _ h => h) (Or.inl ⟨by rfl, ?_⟩) (by assumption) ?_
      · intro wX hSw
        try dsimp only at hSw
        go_simp
        try exact IntWalk.i64_in _ (by omega)
      try simp only [Act.put, List.setIfInBounds_toArray, List.set_cons_zero, List.set_cons_succ]
      refine wpAnyH_take (i := 26) (oi := { dst := some 43, op := Op.move (Operand.tmp 0), type := 24, pos := _, after := _, guard := none }) (v := .slice (some ⟨b, off, none⟩) l.length cap) rfl (by kernel_rfl) (by kernel_rfl) (by kernel_rfl) (fun _ _ _ h => h) (Or.inl ⟨by rfl, ?_⟩) (by assumption) ?_
      · intro wX hSw
        try dsimp only at hSw
        go_simp
        try exact IntWalk.i64_in _ (by omega)
      try simp only [Act.put, List.setIfInBounds_toArray, List.set_cons_zero, List.set_cons_succ]
      refine wpAnyH_take (i := 27) (oi := { dst := some 44, op := Op.move (Operand.tmp 5), type := 3, pos := _, after := _, guard := none }) (v := .int .i64 (p : Int)) rfl (by kernel_rfl) (by kernel_rfl) (by kernel_rfl) (fun _ _ _ h => h) (Or.inl ⟨by rfl, ?_⟩) (by assumption) ?_
      · intro wX hSw
        try dsimp only at hSw
        go_simp
        try exact IntWalk.i64_in _ (by omega)
      try simp only [Act.put, List.setIfInBounds_toArray, List.set_cons_zero, List.set_cons_succ]
      refine wpAnyH_take (i := 28) (oi := { dst := some 45, op := Op.binOp BinOp.add 3 (Operand.tmp 44) (Operand.const (Value.int IntKind.i64 4)) 3, type := 3, pos := _, after := _, guard := none }) (v := .int .i64 ((p : Int) + 4)) rfl (by kernel_rfl) (by kernel_rfl) (by kernel_rfl) (fun _ _ _ h => h) (Or.inl ⟨by rfl, ?_⟩) (by assumption) ?_
      · intro wX hSw
        try dsimp only at hSw
        go_simp
        try exact IntWalk.i64_in _ (by omega)
      try simp only [Act.put, List.setIfInBounds_toArray, List.set_cons_zero, List.set_cons_succ]
      refine wpAnyH_take (i := 29) (oi := { dst := some 46, op := Op.indexAddr 24 (Operand.tmp 43) (Operand.tmp 45), type := 0, pos := _, after := _, guard := none }) (v := .pointer (some ⟨b, off + (p + 4), none⟩)) rfl (by kernel_rfl) (by kernel_rfl) (by kernel_rfl) (fun _ _ _ h => h) (Or.inl ⟨by rfl, ?_⟩) (by assumption) ?_
      · intro wX hSw
        try dsimp only at hSw
        go_simp
        try exact IntWalk.i64_in _ (by omega)
        all_goals first | (intro hh; exfalso; omega) | (rw [if_pos (by omega), show ((p : Int) + 1).toNat = p + 1 by omega]) | (rw [if_pos (by omega), show ((p : Int) + 2).toNat = p + 2 by omega]) | (rw [if_pos (by omega), show ((p : Int) + 3).toNat = p + 3 by omega]) | (rw [if_pos (by omega), show ((p : Int) + 4).toNat = p + 4 by omega])
      try simp only [Act.put, List.setIfInBounds_toArray, List.set_cons_zero, List.set_cons_succ]
      refine wpAnyH_take (i := 30) (oi := { dst := some 47, op := Op.load 5 (Operand.tmp 46), type := 5, pos := _, after := _, guard := none }) (v := .int .u8 y4) rfl (by kernel_rfl) (by kernel_rfl) (by kernel_rfl) (fun _ _ _ h => h) (Or.inl ⟨by rfl, ?_⟩) (by assumption) ?_
      · intro wX hSw
        try dsimp only at hSw
        go_simp
        try exact IntWalk.i64_in _ (by omega)
      try simp only [Act.put, List.setIfInBounds_toArray, List.set_cons_zero, List.set_cons_succ]
      refine wpAnyH_take (i := 4) (oi := { dst := some 21, op := Op.convert 5 3 (Operand.tmp 20), type := 3, pos := _, after := _, guard := none }) (v := .int .i64 y0) rfl (by kernel_rfl) (by kernel_rfl) (by kernel_rfl) (fun _ _ _ h => h) (Or.inl ⟨by rfl, ?_⟩) (by assumption) ?_
      · intro wX hSw
        try dsimp only at hSw
        go_simp
        try exact IntWalk.i64_in _ (by omega)
      try simp only [Act.put, List.setIfInBounds_toArray, List.set_cons_zero, List.set_cons_succ]
      refine wpAnyH_take (i := 5) (oi := { dst := some 22, op := Op.binOp BinOp.shl 3 (Operand.tmp 21) (Operand.const (Value.int IntKind.u64 8)) 47, type := 3, pos := _, after := _, guard := none }) (v := .int .i64 (y0 * 256)) rfl (by kernel_rfl) (by kernel_rfl) (by kernel_rfl) (fun _ _ _ h => h) (Or.inl ⟨by rfl, ?_⟩) (by assumption) ?_
      · intro wX hSw
        try dsimp only at hSw
        go_simp
        try exact IntWalk.i64_in _ (by omega)
      try simp only [Act.put, List.setIfInBounds_toArray, List.set_cons_zero, List.set_cons_succ]
      refine wpAnyH_take (i := 11) (oi := { dst := some 28, op := Op.convert 5 3 (Operand.tmp 27), type := 3, pos := _, after := _, guard := none }) (v := .int .i64 y1) rfl (by kernel_rfl) (by kernel_rfl) (by kernel_rfl) (fun _ _ _ h => h) (Or.inl ⟨by rfl, ?_⟩) (by assumption) ?_
      · intro wX hSw
        try dsimp only at hSw
        go_simp
        try exact IntWalk.i64_in _ (by omega)
      try simp only [Act.put, List.setIfInBounds_toArray, List.set_cons_zero, List.set_cons_succ]
      refine wpAnyH_take (i := 12) (oi := { dst := some 29, op := Op.binOp BinOp.add 3 (Operand.tmp 22) (Operand.tmp 28) 3, type := 3, pos := _, after := _, guard := none }) (v := .int .i64 ((y0 * 256) + y1)) rfl (by kernel_rfl) (by kernel_rfl) (by kernel_rfl) (fun _ _ _ h => h) (Or.inl ⟨by rfl, ?_⟩) (by assumption) ?_
      · intro wX hSw
        try dsimp only at hSw
        go_simp
        try exact IntWalk.i64_in _ (by omega)
      try simp only [Act.put, List.setIfInBounds_toArray, List.set_cons_zero, List.set_cons_succ]
      refine wpAnyH_take (i := 18) (oi := { dst := some 35, op := Op.convert 5 3 (Operand.tmp 34), type := 3, pos := _, after := _, guard := none }) (v := .int .i64 y2) rfl (by kernel_rfl) (by kernel_rfl) (by kernel_rfl) (fun _ _ _ h => h) (Or.inl ⟨by rfl, ?_⟩) (by assumption) ?_
      · intro wX hSw
        try dsimp only at hSw
        go_simp
        try exact IntWalk.i64_in _ (by omega)
      try simp only [Act.put, List.setIfInBounds_toArray, List.set_cons_zero, List.set_cons_succ]
      refine wpAnyH_take (i := 24) (oi := { dst := some 41, op := Op.convert 5 3 (Operand.tmp 40), type := 3, pos := _, after := _, guard := none }) (v := .int .i64 y3) rfl (by kernel_rfl) (by kernel_rfl) (by kernel_rfl) (fun _ _ _ h => h) (Or.inl ⟨by rfl, ?_⟩) (by assumption) ?_
      · intro wX hSw
        try dsimp only at hSw
        go_simp
        try exact IntWalk.i64_in _ (by omega)
      try simp only [Act.put, List.setIfInBounds_toArray, List.set_cons_zero, List.set_cons_succ]
      refine wpAnyH_take (i := 25) (oi := { dst := some 42, op := Op.binOp BinOp.shl 3 (Operand.tmp 41) (Operand.const (Value.int IntKind.u64 8)) 47, type := 3, pos := _, after := _, guard := none }) (v := .int .i64 (y3 * 256)) rfl (by kernel_rfl) (by kernel_rfl) (by kernel_rfl) (fun _ _ _ h => h) (Or.inl ⟨by rfl, ?_⟩) (by assumption) ?_
      · intro wX hSw
        try dsimp only at hSw
        go_simp
        try exact IntWalk.i64_in _ (by omega)
      try simp only [Act.put, List.setIfInBounds_toArray, List.set_cons_zero, List.set_cons_succ]
      refine wpAnyH_take (i := 31) (oi := { dst := some 48, op := Op.convert 5 3 (Operand.tmp 47), type := 3, pos := _, after := _, guard := none }) (v := .int .i64 y4) rfl (by kernel_rfl) (by kernel_rfl) (by kernel_rfl) (fun _ _ _ h => h) (Or.inl ⟨by rfl, ?_⟩) (by assumption) ?_
      · intro wX hSw
        try dsimp only at hSw
        go_simp
        try exact IntWalk.i64_in _ (by omega)
      try simp only [Act.put, List.setIfInBounds_toArray, List.set_cons_zero, List.set_cons_succ]
      refine wpAnyH_take (i := 32) (oi := { dst := some 49, op := Op.binOp BinOp.add 3 (Operand.tmp 42) (Operand.tmp 48) 3, type := 3, pos := _, after := _, guard := none }) (v := .int .i64 ((y3 * 256) + y4)) rfl (by kernel_rfl) (by kernel_rfl) (by kernel_rfl) (fun _ _ _ h => h) (Or.inl ⟨by rfl, ?_⟩) (by assumption) ?_
      · intro wX hSw
        try dsimp only at hSw
        go_simp
        try exact IntWalk.i64_in _ (by omega)
      try simp only [Act.put, List.setIfInBounds_toArray, List.set_cons_zero, List.set_cons_succ]
      refine wpAnyH_take (i := 33) (oi := { dst := some 50, op := Op.build 40 #[(0, Operand.tmp 29), (1, Operand.tmp 35), (2, Operand.tmp 49)], type := 40, pos := _, after := _, guard := none }) (v := .agg #[.int .i64 (y0 * 256 + y1), .int .i64 y2, .int .i64 (y3 * 256 + y4)]) rfl (by kernel_rfl) (by kernel_rfl) (by kernel_rfl) (fun _ _ _ h => h) (Or.inl ⟨by rfl, ?_⟩) (by assumption) ?_
      · intro wX hSw
        try dsimp only at hSw
        go_simp
        try exact IntWalk.i64_in _ (by omega)
      try simp only [Act.put, List.setIfInBounds_toArray, List.set_cons_zero, List.set_cons_succ]
      obtain ⟨V0, hV0⟩ : ∃ V, (wr.alloc (.cells #[.int .i64 0, .int .i64 0, .int .i64 0] 40)).drew = V := ⟨_, rfl⟩
      have HV0 : Hid ((wr.alloc (.cells #[.int .i64 0, .int .i64 0, .int .i64 0] 40)).drew = V0) := hV0
      have HBL1 : Hid (Below B wr V0) := by (rw [← hV0]; exact ((Below.refl B wr).alloc hs1 _).drew)
      have HQ0 : Hid (Bk V0 wr.heap.size 40 #[.int .i64 0, .int .i64 0, .int .i64 0]) := by (rw [← hV0]; exact Bk.new _ _ _)
      have HR0 : Hid (RowX B V0 o (readL l k)) := by (rw [← hV0]; exact World.ownsRow.alloc HR1.out _)
      have HNE : Hid (¬ o.ownBlock = some wr.heap.size) := fun e => Nat.lt_irrefl _ (RowX.lt HR1.out e)
      have HS1 : Hid (V0.cell? ⟨b, off + p, none⟩ = some (.int .u8 y0) ∧ V0.cell? ⟨b, off + (p + 1), none⟩ = some (.int .u8 y1) ∧ V0.cell? ⟨b, off + (p + 2), none⟩ = some (.int .u8 y2) ∧ V0.cell? ⟨b, off + (p + 3), none⟩ = some (.int .u8 y3) ∧ V0.cell? ⟨b, off + (p + 4), none⟩ = some (.int .u8 y4)) := ⟨(HBL1.out.cell (p := ⟨b, _, none⟩) hb).trans c0, (HBL1.out.cell (p := ⟨b, _, none⟩) hb).trans c1, (HBL1.out.cell (p := ⟨b, _, none⟩) hb).trans c2, (HBL1.out.cell (p := ⟨b, _, none⟩) hb).trans c3, (HBL1.out.cell (p := ⟨b, _, none⟩) hb).trans c4⟩
      clear hV0
      refine wpAnyH_ready (rs := [34]) (by kernel_rfl) (by simp) ?_
      refine AllReadyH.cons (o := { dst := some 6, op := Op.alloc 40, type := 0, pos := _, after := _, guard := none }) rfl (fun K hK => ?_) AllReadyH.nil
      go_simp
      rw [HV0.out]
      refine hK.out _ _ HS1.out (fun hHeld => ?_)
      clear hK K
      try simp only [Act.put, List.setIfInBounds_toArray, List.set_cons_zero, List.set_cons_succ]
      have z0 := HQ0.out.cell (i := 0) rfl
      have z1 := HQ0.out.cell (i := 1) rfl
      have z2 := HQ0.out.cell (i := 2) rfl
      have zf := HQ0.out.free
      obtain ⟨V, hV⟩ : ∃ V, ((V0.setCell ⟨wr.heap.size, 0, none⟩ (.int .i64 (y0 * 256 + y1))).setCell ⟨wr.heap.size, 1, none⟩ (.int .i64 y2)).setCell ⟨wr.heap.size, 2, none⟩ (.int .i64 (y3 * 256 + y4)) = V := ⟨_, rfl⟩
      have hT : Turns (fun j => j = wr.heap.size) V0 V := by (rw [← hV]; exact ((put1_turns _ _ _ _).trans (put1_turns _ _ _ _)).trans (put1_turns _ _ _ _))
      have HQV : Hid (Bk V wr.heap.size 40 #[.int .i64 (y0 * 256 + y1), .int .i64 y2, .int .i64 (y3 * 256 + y4)]) := by (rw [← hV]; exact ((HQ0.out.put 0 _).put 1 _).put 2 _)
      have HBL2 : Hid (Below B wr V) := HBL1.out.trans (hT.to_below (fun j e => by omega) (Nat.le_trans hs1 HBL1.out.size))
      have HRV : Hid (RowX B V o (readL l k)) := HR0.out.turns hT (fun j e1 e2 => HNE.out (e2 ▸ e1))
      have HBV : Hid (Below B w V) := HB1.out.trans HBL2.out
      have hsV : B ≤ V.heap.size := Nat.le_trans hBw.1 HBV.out.size
      have HS2 : Hid (V.cell? ⟨b, off + p, none⟩ = some (.int .u8 y0) ∧ V.cell? ⟨b, off + (p + 1), none⟩ = some (.int .u8 y1) ∧ V.cell? ⟨b, off + (p + 2), none⟩ = some (.int .u8 y2) ∧ V.cell? ⟨b, off + (p + 3), none⟩ = some (.int .u8 y3) ∧ V.cell? ⟨b, off + (p + 4), none⟩ = some (.int .u8 y4)) := ⟨(HBL2.out.cell (p := ⟨b, _, none⟩) hb).trans c0, (HBL2.out.cell (p := ⟨b, _, none⟩) hb).trans c1, (HBL2.out.cell (p := ⟨b, _, none⟩) hb).trans c2, (HBL2.out.cell (p := ⟨b, _, none⟩) hb).trans c3, (HBL2.out.cell (p := ⟨b, _, none⟩) hb).trans c4⟩
      have HV : Hid (((V0.setCell ⟨wr.heap.size, 0, none⟩ (.int .i64 (y0 * 256 + y1))).setCell ⟨wr.heap.size, 1, none⟩ (.int .i64 y2)).setCell ⟨wr.heap.size, 2, none⟩ (.int .i64 (y3 * 256 + y4)) = V) := hV
      clear hV hT
      refine wpAnyH_ready (rs := [35]) (by kernel_rfl) (by simp) ?_
      refine AllReadyH.cons (o := { dst := none, op := Op.store 40 (Operand.tmp 6) (Operand.tmp 50), type := 0, pos := _, after := _, guard := none }) rfl (fun K hK => ?_) AllReadyH.nil
      go_simp
      rw [HV.out]
      refine hK.out _ _ HS2.out (fun hHeld => ?_)
      clear hK K
      try simp only [Act.put, List.setIfInBounds_toArray, List.set_cons_zero, List.set_cons_succ]
      refine wpAnyH_done (by kernel_rfl) ?_ _
      clear hHeld HS0 HS1 HS2 HV HV0 HBL1 HBL2 HQ0 HR0 HNE z0 z1 z2 zf c0 c1 c2 c3 c4 HB1 HR1 hs1
      generalize hz0 : y0 * 256 + y1 = z0 at HE HQV ⊢
      generalize hz2 : y3 * 256 + y4 = z2 at HE HQV ⊢
      clear hz0 hz2
      have q0 := HQV.out.cell (i := 0) rfl
      have q1 := HQV.out.cell (i := 1) rfl
      have q2 := HQV.out.cell (i := 2) rfl
      go_wp2_with fail
      refine (sEmit z0 y2 z2 _).mono ?_
      rintro e w2 ⟨rfl, hb2⟩
      have HB2 : Hid (Below B w w2) := HBV.out.trans (hb2.mono hsV)
      have HR2 : Hid (RowX B w2 o (readL l k)) := HRV.out.below hb2
      have HQ2 : Hid (Bk w2 wr.heap.size 40 #[.int .i64 z0, .int .i64 y2, .int .i64 z2]) := HQV.out.below hb2
      have hs2 : B ≤ w2.heap.size := Nat.le_trans hBw.1 HB2.out.size
      clear hb2 HBV HRV HQV q0 q1 q2
      cases hok : Em.okB ⟨z0, y2, z2⟩ with
      | false =>
        have HNN : Hid (rdB l = false ∧ rdR l = []) := rd_bad (HNO.out (by rw [HE.out.2, hok]))
        clear hok
        go_wp2
        go_ret2
        exact ⟨_, by rw [HNN.out.1]; rfl, by rw [HNN.out.2]; exact ((RowX.nil w.heap.size w2).own), HB2.out.mono hBw.2⟩
      | true =>
        have HY : Hid ((emR l (5 * k)).okB = true) := by rw [HE.out.2]; exact hok
        clear hok
        have q0 := HQ2.out.cell (i := 0) rfl
        have q1 := HQ2.out.cell (i := 1) rfl
        have q2 := HQ2.out.cell (i := 2) rfl
        go_wp2_with (at_builtin; refine wpList_append_own _ rfl _ _ 27 rfl B 40 ix (.agg #[.int .i64 0, .int .i64 0, .int .i64 0]) 3 24 Try.underlying27 hx0 hx1 hx2 hx3 rfl (by decide) o _ _ rfl (World.ownsRow.alloc HR2.out _) ⟨w2.heap.size, 0, none⟩ 1 1 [.int .i64 z0, .int .i64 y2, .int .i64 z2] rfl rfl (at_new3 _ _ _ _) (ones3 _ _ _) (by unfold maxLen; omega) (by omega) (by simp; omega) ?_; intro v4 w4 hown hgrow hnil)
        go_roundw
        case rel =>
          refine ⟨k + 1, _, by omega, rfl, by (rw [← HP.out]; go_num), fun j hj => by
            by_cases e : j = k
            · subst e; exact HY.out
            · exact HA.out j (by omega), ?_, (HB2.out.alloc hs2 _).grown hgrow (by simp; omega) (fun j e => row_ge HR2.out e)⟩
          rw [HE.out.1, HE.out.2]
          exact RowX.grow hown
        case measure => simp [intOf]; omega
    · obtain rfl : n = k := by omega
      have HL : Hid (rdB l = (emsC (readL l (l.length / 5))) ∧ emsC (readL l (l.length / 5)) = true) := by
        have h1 : emsC (readL l (l.length / 5)) = true := by unfold emsC; rw [HN.out.2.1, readL_length]; exact all_yes (fun i hi => by rw [readL_at l n i hi]; exact HA.out i hi)
        exact ⟨by simp [rdB, HN.out.2.2], h1⟩
      have HRR : Hid (rdB l = true ∧ rdR l = readL l n) := by
        have := rd_good HN.out.2.2 HL.out.2
        rw [HN.out.2.1] at this
        exact this
      have hge : ¬ (((5 * n : Nat) : Int) < (l.length : Int)) := by omega
      clear hBr
      go_wp2
      go_ret2
      exact ⟨_, by rw [HRR.out.1]; rfl, by rw [HRR.out.2]; exact HR1.out.own.mono (fun k h => ⟨by omega, h.2⟩), HB1.out.mono hBw.2⟩
end Go.Proofs.Ytacgdmojhhdegaa
