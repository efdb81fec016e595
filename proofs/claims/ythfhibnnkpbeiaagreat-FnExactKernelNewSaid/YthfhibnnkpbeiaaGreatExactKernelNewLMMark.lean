/- markIntS, markOpS, markEventS from any number on; heldIntS, heldOpS, heldEventS. -/
import Derived.Test.YthfhibnnkpbeiaaGreatExactKernelNewG02
namespace Go.Proofs.YthfhibnnkpbeiaaGreat
open Go.RowKit
def mkCells (z : Int) (n : Nat) : List Value := (List.range n).map fun i : Nat => .int .i64 (z + (i : Int))
theorem mkCells_length (z : Int) (n : Nat) : (mkCells z n).length = n := by simp [mkCells]
theorem mkCells_get {z : Int} {n i : Nat} (h : i < n) : (mkCells z n)[i]? = some (.int .i64 (z + (i : Int))) := by simp [mkCells, h]
def MkTo (w : World) (g N : Nat) (z : Int) (k : Nat) : Prop := g < w.heap.size ∧ (∀ j, j < N → (w.cell? ⟨g, j, none⟩).isSome = true ∧ w.frozen? ⟨g, j, none⟩ = false) ∧ ∀ i, i < k → w.cell? ⟨g, i, none⟩ = some (.int .i64 (z + (i : Int)))
theorem MkTo.put {w : World} {g N k : Nat} {z : Int} (h : MkTo w g N z k) (hk : k < N) {u : Int} (hu : u = z + (k : Int)) : MkTo (w.setCell ⟨g, k, none⟩ (.int .i64 u)) g N z (k + 1) := by
 subst hu
 have e1 : w.setCell ⟨g, k, none⟩ (.int .i64 (z + (k : Int))) = w.setCells g k [.int .i64 (z + (k : Int))] := rfl
 have hsame : ∀ j, j ≠ k → (w.setCell ⟨g, k, none⟩ (.int .i64 (z + (k : Int)))).cell? ⟨g, j, none⟩ = w.cell? ⟨g, j, none⟩ := fun j hj => by
  rw [e1]
  exact World.cell?_setCells_out g _ k w ⟨g, j, none⟩ (fun _ _ => by simp; omega)
 have hat : (w.setCell ⟨g, k, none⟩ (.int .i64 (z + (k : Int)))).cell? ⟨g, k, none⟩ = some (.int .i64 (z + (k : Int))) := by
  rw [e1]
  have h0 := World.cell?_setCells_in g [.int .i64 (z + (k : Int))] k w (fun j hj => by
   obtain rfl : j = 0 := by simpa using hj
   exact (h.2.1 k hk).1) 0 (by simp)
  simpa using h0
 refine ⟨by simpa using h.1, fun j hj => ⟨?_, ?_⟩, fun i hi => ?_⟩
 ·by_cases e : j = k
  ·subst e; rw [hat]; rfl
  ·rw [hsame j e]; exact (h.2.1 j hj).1
 ·rw [e1, World.frozen?_setCells]; exact (h.2.1 j hj).2
 ·by_cases e : i = k
  ·subst e; exact hat
  ·rw [hsame i e]; exact h.2.2 i (by omega)
theorem RowF.mkTo {F : Nat → Prop} {w : World} {x : Value} {n c : Nat} {cs : List Value} (h : RowF F w x n c cs) (z : Int) : ∃ a cap, x = .slice a n cap ∧ n ≤ cap ∧ cap ≤ maxLen ∧ (n = 0 ∨ ∃ g, a = some ⟨g, 0, none⟩ ∧ F g ∧ MkTo w g (n * c) z 0) := by
 obtain ⟨hl, a, cap, rfl, h1, h2, h⟩ := h
 refine ⟨a, cap, rfl, h1, h2, h.imp id ?_⟩
 rintro ⟨g, rfl, hF, hg, hc⟩
 refine ⟨g, rfl, hF, hg, fun j hj => ⟨?_, (hc j hj).2⟩, fun i hi => by omega⟩
 rw [(hc j hj).1, List.getElem?_eq_getElem (by omega)]
 rfl
theorem MkTo.row {F : Nat → Prop} {w : World} {g n c cap : Nat} {z : Int} (h : MkTo w g (n * c) z (n * c)) (hF : F g) (h1 : n ≤ cap) (h2 : cap ≤ maxLen) : RowF F w (.slice (some ⟨g, 0, none⟩) n cap) n c (mkCells z (n * c)) :=
 ⟨mkCells_length _ _, _, cap, rfl, h1, h2, .inr ⟨g, rfl, hF, h.1, fun j hj => ⟨by rw [mkCells_get hj]; exact h.2.2 j hj, (h.2.1 j hj).2⟩⟩⟩
theorem RowF.nil {F : Nat → Prop} {w : World} {a : Option Addr} {cap c : Nat} {z : Int} (h2 : cap ≤ maxLen) : RowF F w (.slice a 0 cap) 0 c (mkCells z (0 * c)) :=
 ⟨by simp [mkCells], a, cap, rfl, Nat.zero_le _, h2, .inl rfl⟩
theorem RowF.marked {F : Nat → Prop} {w : World} {x : Value} {n c : Nat} {z : Int} (h : RowF F w x n c (mkCells z (n * c))) : ∃ a cap, x = .slice a n cap ∧ (n = 0 ∨ ∃ g, a = some ⟨g, 0, none⟩ ∧ ∀ j, j < n * c → w.cell? ⟨g, j, none⟩ = some (.int .i64 (z + (j : Int)))) := by
 obtain ⟨hl, a, cap, rfl, h1, h2, h⟩ := h
 refine ⟨a, cap, rfl, h.imp id ?_⟩
 rintro ⟨g, rfl, hF, hg, hc⟩
 exact ⟨g, rfl, fun j hj => by rw [(hc j hj).1, mkCells_get hj]⟩
theorem one_add (w : World) (g o : Nat) (u : Value) : Turns (fun b => b = g) w (w.setCell ⟨g, o, none⟩ u) := (Turns.refl (fun b => b = g) w).setCell (p := ⟨g, o, none⟩) rfl _
set_option maxHeartbeats 2000000 in
theorem markIF {F : Nat → Prop} {x : Value} {n : Nat} {cs : List Value} {w : World} (z : Int) (hn : n ≤ 1048577) (hz0 : 0 ≤ z) (hz1 : z ≤ 1073741824) (h : RowF F w x n 1 cs) :
  Calls Tryz.prog 14 #[x, .int .i64 z] w fun e w' => e = .returned (.int .i64 (z + (n : Int))) ∧ RowF F w' x n 1 (mkCells z (n * 1)) ∧ Turns F w w' := by
 obtain ⟨a, cap, rfl, h1, h2, h⟩ := h.mkTo z
 have HM : Hid (n ≤ cap ∧ cap ≤ maxLen) := ⟨h1, h2⟩
 clear h1 h2
 by_cases hz : n = 0
 ·subst hz
  clear h
  go_enter Tryz.func14, Tryz.ntmps14
  go_wp2
  go_loop [5, 1] (fun i y => i = .int .i64 0 ∧ y = .int .i64 z) (fun _ _ => 0)
  case atStart => exact ⟨rfl, rfl⟩
  case round =>
   obtain ⟨rfl, rfl⟩ := hrel
   go_wp2
   go_ret
   exact ⟨ret_int (by simp), RowF.nil HM.out.2, Turns.refl _ _⟩
 ·obtain ⟨g, rfl, hF, h⟩ := h.resolve_left hz
  have HR0 : Hid (MkTo w g n z 0) := by rw [Nat.mul_one] at h; exact h
  have HF : Hid (F g) := hF
  clear h hz hF
  go_enter Tryz.func14, Tryz.ntmps14
  go_wp2
  go_loopw [5, 1] (fun i y wr => ∃ k : Nat, k ≤ n ∧ i = .int .i64 k ∧ y = .int .i64 (z + (k : Int)) ∧ MkTo wr g n z k ∧ Turns (fun b => b = g) w wr) (fun i _ _ => n - (intOf i).toNat)
  case atStart => exact ⟨0, Nat.zero_le _, rfl, by simp, HR0.out, Turns.refl _ _⟩
  case round =>
   obtain ⟨k, hk, rfl, rfl, hR, hg⟩ := hrel
   have HR : Hid (MkTo wr g n z k) := hR
   have HG : Hid (Turns (fun b => b = g) w wr) := hg
   clear hR hg
   by_cases hlt : k < n
   ·obtain ⟨v, hv⟩ := Option.isSome_iff_exists.1 (HR.out.2.1 k hlt).1
    have hf := (HR.out.2.1 k hlt).2
    obtain ⟨y, hy⟩ : ∃ y : Int, y = z + (k : Int) := ⟨_, rfl⟩
    have hy0 : 0 ≤ y := by omega
    have hy1 : y ≤ 1075000000 := by omega
    have HY : Hid (y = z + (k : Int)) := hy
    rw [← hy]
    clear hy
    go_wp2
    go_roundw
    case rel => exact ⟨k + 1, by omega, by go_num, by rw [show y + 1 = z + ((k + 1 : Nat) : Int) from by have := HY.out; omega], HR.out.put hlt HY.out, HG.out.trans (one_add _ _ _ _)⟩
    case measure => simp [intOf]; omega
   ·go_wp2
    go_ret
    obtain rfl : k = n := by omega
    exact ⟨rfl, MkTo.row (by rw [Nat.mul_one]; exact HR.out) HF.out HM.out.1 HM.out.2, HG.out.mono (fun k e => e ▸ HF.out)⟩
set_option maxHeartbeats 2000000 in
theorem heldIF {F : Nat → Prop} {x : Value} {n : Nat} {w : World} (z : Int) (hn : n ≤ 1048577) (hz0 : 0 ≤ z) (hz1 : z ≤ 1073741824) (h : RowF F w x n 1 (mkCells z (n * 1))) :
  Calls Tryz.prog 47 #[x, .int .i64 z] w fun e w' => e = .returned (.int .i64 (z + (n : Int))) ∧ w' = w := by
 obtain ⟨a, cap, rfl, hm⟩ := h.marked
 clear h
 by_cases hz : n = 0
 ·subst hz
  clear hm
  go_enter Tryz.func47, Tryz.ntmps47
  go_wp2
  go_loop [5, 1] (fun i y => i = .int .i64 0 ∧ y = .int .i64 z) (fun _ _ => 0)
  case atStart => exact ⟨rfl, rfl⟩
  case round =>
   obtain ⟨rfl, rfl⟩ := hrel
   go_wp2
   go_ret
   exact ⟨ret_int (by simp), rfl⟩
 ·obtain ⟨g, rfl, h⟩ := hm.resolve_left hz
  have HR : Hid (∀ j, j < n * 1 → w.cell? ⟨g, j, none⟩ = some (.int .i64 (z + (j : Int)))) := h
  clear h hz hm
  go_enter Tryz.func47, Tryz.ntmps47
  go_wp2
  go_loop [5, 1] (fun i y => ∃ k : Nat, k ≤ n ∧ i = .int .i64 k ∧ y = .int .i64 (z + (k : Int))) (fun i _ => n - (intOf i).toNat)
  case atStart => exact ⟨0, Nat.zero_le _, rfl, by simp⟩
  case round =>
   obtain ⟨k, hk, rfl, rfl⟩ := hrel
   by_cases hlt : k < n
   ·have hev := HR.out k (by omega)
    obtain ⟨y, hy⟩ : ∃ y : Int, y = z + (k : Int) := ⟨_, rfl⟩
    have hy0 : 0 ≤ y := by omega
    have hy1 : y ≤ 1075000000 := by omega
    have HY : Hid (y = z + (k : Int)) := hy
    rw [← hy] at hev ⊢
    clear hy
    go_wp2
    go_round
    case rel => exact ⟨k + 1, by omega, by go_num, by rw [show y + 1 = z + ((k + 1 : Nat) : Int) from by have := HY.out; omega]⟩
    case measure => simp [intOf]; omega
   ·go_wp2
    go_ret
    obtain rfl : k = n := by omega
    exact ⟨rfl, rfl⟩
set_option maxHeartbeats 4000000 in
theorem markOF {F : Nat → Prop} {x : Value} {n : Nat} {cs : List Value} {w : World} (z : Int) (hn : n ≤ 1048577) (hz0 : 0 ≤ z) (hz1 : z ≤ 1073741824) (h : RowF F w x n 4 cs) :
  Calls Tryz.prog 88 #[x, .int .i64 z] w fun e w' => e = .returned (.int .i64 (z + 4 * (n : Int))) ∧ RowF F w' x n 4 (mkCells z (n * 4)) ∧ Turns F w w' := by
 obtain ⟨a, cap, rfl, h1, h2, h⟩ := h.mkTo z
 have HM : Hid (n ≤ cap ∧ cap ≤ maxLen) := ⟨h1, h2⟩
 clear h1 h2
 by_cases hz : n = 0
 ·subst hz
  clear h
  go_enter Tryz.func88, Tryz.ntmps88
  go_wp2
  go_loop [5, 1] (fun i y => i = .int .i64 0 ∧ y = .int .i64 z) (fun _ _ => 0)
  case atStart => exact ⟨rfl, rfl⟩
  case round =>
   obtain ⟨rfl, rfl⟩ := hrel
   go_wp2
   go_ret
   exact ⟨ret_int (by simp), RowF.nil HM.out.2, Turns.refl _ _⟩
 ·obtain ⟨g, rfl, hF, h⟩ := h.resolve_left hz
  have HR0 : Hid (MkTo w g (n * 4) z 0) := h
  have HF : Hid (F g) := hF
  clear h hz hF
  go_enter Tryz.func88, Tryz.ntmps88
  go_wp2
  go_loopw [5, 1] (fun i y wr => ∃ k : Nat, k ≤ n ∧ i = .int .i64 k ∧ y = .int .i64 (z + 4 * (k : Int)) ∧ MkTo wr g (n * 4) z (k * 4) ∧ Turns (fun b => b = g) w wr) (fun i _ _ => n - (intOf i).toNat)
  case atStart => exact ⟨0, Nat.zero_le _, rfl, by simp, by rw [Nat.zero_mul]; exact HR0.out, Turns.refl _ _⟩
  case round =>
   obtain ⟨k, hk, rfl, rfl, hR, hg⟩ := hrel
   have HR : Hid (MkTo wr g (n * 4) z (k * 4)) := hR
   have HG : Hid (Turns (fun b => b = g) w wr) := hg
   clear hR hg
   by_cases hlt : k < n
   ·have hh : ∀ j, j < 4 → (∃ u, wr.cell? ⟨g, k * 4 + j, none⟩ = some u) ∧ wr.frozen? ⟨g, k * 4 + j, none⟩ = false := fun j hj => ⟨Option.isSome_iff_exists.1 (HR.out.2.1 _ (by omega)).1, (HR.out.2.1 _ (by omega)).2⟩
    obtain ⟨⟨v0, g0⟩, f0⟩ := hh 0 (by omega)
    obtain ⟨⟨v1, g1⟩, f1⟩ := hh 1 (by omega)
    obtain ⟨⟨v2, g2⟩, f2⟩ := hh 2 (by omega)
    obtain ⟨⟨v3, g3⟩, f3⟩ := hh 3 (by omega)
    rw [Nat.add_zero] at g0 f0
    clear hh
    obtain ⟨y, hy⟩ : ∃ y : Int, y = z + 4 * (k : Int) := ⟨_, rfl⟩
    have hy0 : 0 ≤ y := by omega
    have hy1 : y ≤ 1090000000 := by omega
    have HY : Hid (y = z + 4 * (k : Int)) := hy
    rw [← hy]
    clear hy
    go_wp2
    go_roundw
    case rel =>
     have hY := HY.out
     refine ⟨k + 1, by omega, by go_num, by rw [show y + 1 + 1 + 1 + 1 = z + 4 * ((k + 1 : Nat) : Int) from by omega], ?_, ?_⟩
     ·rw [show (k + 1) * 4 = k * 4 + 4 from by omega]
      exact (((HR.out.put (by omega) (u := y) (by omega)).put (by omega) (u := y + 1) (by omega)).put (by omega) (u := y + 1 + 1) (by omega)).put (by omega) (u := y + 1 + 1 + 1) (by omega)
     ·exact HG.out.trans ((((one_add wr g _ _).trans (one_add _ _ _ _)).trans (one_add _ _ _ _)).trans (one_add _ _ _ _))
    case measure => simp [intOf]; omega
   ·go_wp2
    go_ret
    obtain rfl : k = n := by omega
    exact ⟨rfl, MkTo.row HR.out HF.out HM.out.1 HM.out.2, HG.out.mono (fun k e => e ▸ HF.out)⟩
set_option maxHeartbeats 4000000 in
theorem heldOF {F : Nat → Prop} {x : Value} {n : Nat} {w : World} (z : Int) (hn : n ≤ 1048577) (hz0 : 0 ≤ z) (hz1 : z ≤ 1073741824) (h : RowF F w x n 4 (mkCells z (n * 4))) :
  Calls Tryz.prog 111 #[x, .int .i64 z] w fun e w' => e = .returned (.int .i64 (z + 4 * (n : Int))) ∧ w' = w := by
 obtain ⟨a, cap, rfl, hm⟩ := h.marked
 clear h
 by_cases hz : n = 0
 ·subst hz
  clear hm
  go_enter Tryz.func111, Tryz.ntmps111
  go_wp2
  go_loop [5, 1] (fun i y => i = .int .i64 0 ∧ y = .int .i64 z) (fun _ _ => 0)
  case atStart => exact ⟨rfl, rfl⟩
  case round =>
   obtain ⟨rfl, rfl⟩ := hrel
   go_wp2
   go_ret
   exact ⟨ret_int (by simp), rfl⟩
 ·obtain ⟨g, rfl, h⟩ := hm.resolve_left hz
  have HR : Hid (∀ j, j < n * 4 → w.cell? ⟨g, j, none⟩ = some (.int .i64 (z + (j : Int)))) := h
  clear h hz hm
  go_enter Tryz.func111, Tryz.ntmps111
  go_wp2
  go_loop [5, 1] (fun i y => ∃ k : Nat, k ≤ n ∧ i = .int .i64 k ∧ y = .int .i64 (z + 4 * (k : Int))) (fun i _ => n - (intOf i).toNat)
  case atStart => exact ⟨0, Nat.zero_le _, rfl, by simp⟩
  case round =>
   obtain ⟨k, hk, rfl, rfl⟩ := hrel
   by_cases hlt : k < n
   ·have hh := fun j (hj : j < 4) => HR.out (k * 4 + j) (by omega)
    obtain ⟨y, hy⟩ : ∃ y : Int, y = z + 4 * (k : Int) := ⟨_, rfl⟩
    have g0 := hh 0 (by omega)
    rw [show z + ((k * 4 + 0 : Nat) : Int) = y from by omega] at g0
    have g1 := hh 1 (by omega)
    rw [show z + ((k * 4 + 1 : Nat) : Int) = y + 1 from by omega] at g1
    have g2 := hh 2 (by omega)
    rw [show z + ((k * 4 + 2 : Nat) : Int) = y + 1 + 1 from by omega] at g2
    have g3 := hh 3 (by omega)
    rw [show z + ((k * 4 + 3 : Nat) : Int) = y + 1 + 1 + 1 from by omega] at g3
    rw [Nat.add_zero] at g0
    clear hh
    have hy0 : 0 ≤ y := by omega
    have hy1 : y ≤ 1090000000 := by omega
    have HY : Hid (y = z + 4 * (k : Int)) := hy
    rw [← hy]
    clear hy
    go_wp2
    go_round
    case rel => exact ⟨k + 1, by omega, by go_num, by rw [show y + 1 + 1 + 1 + 1 = z + 4 * ((k + 1 : Nat) : Int) from by have := HY.out; omega]⟩
    case measure => simp [intOf]; omega
   ·go_wp2
    go_ret
    obtain rfl : k = n := by omega
    exact ⟨rfl, rfl⟩
set_option maxHeartbeats 4000000 in
theorem markEF {F : Nat → Prop} {x : Value} {n : Nat} {cs : List Value} {w : World} (z : Int) (hn : n ≤ 1048577) (hz0 : 0 ≤ z) (hz1 : z ≤ 1073741824) (h : RowF F w x n 7 cs) :
  Calls Tryz.prog 42 #[x, .int .i64 z] w fun e w' => e = .returned (.int .i64 (z + 7 * (n : Int))) ∧ RowF F w' x n 7 (mkCells z (n * 7)) ∧ Turns F w w' := by
 obtain ⟨a, cap, rfl, h1, h2, h⟩ := h.mkTo z
 have HM : Hid (n ≤ cap ∧ cap ≤ maxLen) := ⟨h1, h2⟩
 clear h1 h2
 by_cases hz : n = 0
 ·subst hz
  clear h
  go_enter Tryz.func42, Tryz.ntmps42
  go_wp2
  go_loop [5, 1] (fun i y => i = .int .i64 0 ∧ y = .int .i64 z) (fun _ _ => 0)
  case atStart => exact ⟨rfl, rfl⟩
  case round =>
   obtain ⟨rfl, rfl⟩ := hrel
   go_wp2
   go_ret
   exact ⟨ret_int (by simp), RowF.nil HM.out.2, Turns.refl _ _⟩
 ·obtain ⟨g, rfl, hF, h⟩ := h.resolve_left hz
  have HR0 : Hid (MkTo w g (n * 7) z 0) := h
  have HF : Hid (F g) := hF
  clear h hz hF
  go_enter Tryz.func42, Tryz.ntmps42
  go_wp2
  go_loopw [5, 1] (fun i y wr => ∃ k : Nat, k ≤ n ∧ i = .int .i64 k ∧ y = .int .i64 (z + 7 * (k : Int)) ∧ MkTo wr g (n * 7) z (k * 7) ∧ Turns (fun b => b = g) w wr) (fun i _ _ => n - (intOf i).toNat)
  case atStart => exact ⟨0, Nat.zero_le _, rfl, by simp, by rw [Nat.zero_mul]; exact HR0.out, Turns.refl _ _⟩
  case round =>
   obtain ⟨k, hk, rfl, rfl, hR, hg⟩ := hrel
   have HR : Hid (MkTo wr g (n * 7) z (k * 7)) := hR
   have HG : Hid (Turns (fun b => b = g) w wr) := hg
   clear hR hg
   by_cases hlt : k < n
   ·have hh : ∀ j, j < 7 → (∃ u, wr.cell? ⟨g, k * 7 + j, none⟩ = some u) ∧ wr.frozen? ⟨g, k * 7 + j, none⟩ = false := fun j hj => ⟨Option.isSome_iff_exists.1 (HR.out.2.1 _ (by omega)).1, (HR.out.2.1 _ (by omega)).2⟩
    obtain ⟨⟨v0, g0⟩, f0⟩ := hh 0 (by omega)
    obtain ⟨⟨v1, g1⟩, f1⟩ := hh 1 (by omega)
    obtain ⟨⟨v2, g2⟩, f2⟩ := hh 2 (by omega)
    obtain ⟨⟨v3, g3⟩, f3⟩ := hh 3 (by omega)
    obtain ⟨⟨v4, g4⟩, f4⟩ := hh 4 (by omega)
    obtain ⟨⟨v5, g5⟩, f5⟩ := hh 5 (by omega)
    obtain ⟨⟨v6, g6⟩, f6⟩ := hh 6 (by omega)
    rw [Nat.add_zero] at g0 f0
    clear hh
    obtain ⟨y, hy⟩ : ∃ y : Int, y = z + 7 * (k : Int) := ⟨_, rfl⟩
    have hy0 : 0 ≤ y := by omega
    have hy1 : y ≤ 1090000000 := by omega
    have HY : Hid (y = z + 7 * (k : Int)) := hy
    rw [← hy]
    clear hy
    go_wp2
    go_roundw
    case rel =>
     have hY := HY.out
     refine ⟨k + 1, by omega, by go_num, by rw [show y + 1 + 1 + 1 + 1 + 1 + 1 + 1 = z + 7 * ((k + 1 : Nat) : Int) from by omega], ?_, ?_⟩
     ·rw [show (k + 1) * 7 = k * 7 + 7 from by omega]
      exact ((((((HR.out.put (by omega) (u := y) (by omega)).put (by omega) (u := y + 1) (by omega)).put (by omega) (u := y + 1 + 1) (by omega)).put (by omega) (u := y + 1 + 1 + 1) (by omega)).put (by omega) (u := y + 1 + 1 + 1 + 1) (by omega)).put (by omega) (u := y + 1 + 1 + 1 + 1 + 1) (by omega)).put (by omega) (u := y + 1 + 1 + 1 + 1 + 1 + 1) (by omega)
     ·exact HG.out.trans (((((((one_add wr g _ _).trans (one_add _ _ _ _)).trans (one_add _ _ _ _)).trans (one_add _ _ _ _)).trans (one_add _ _ _ _)).trans (one_add _ _ _ _)).trans (one_add _ _ _ _))
    case measure => simp [intOf]; omega
   ·go_wp2
    go_ret
    obtain rfl : k = n := by omega
    exact ⟨rfl, MkTo.row HR.out HF.out HM.out.1 HM.out.2, HG.out.mono (fun k e => e ▸ HF.out)⟩
set_option maxHeartbeats 4000000 in
theorem heldEF {F : Nat → Prop} {x : Value} {n : Nat} {w : World} (z : Int) (hn : n ≤ 1048577) (hz0 : 0 ≤ z) (hz1 : z ≤ 1073741824) (h : RowF F w x n 7 (mkCells z (n * 7))) :
  Calls Tryz.prog 50 #[x, .int .i64 z] w fun e w' => e = .returned (.int .i64 (z + 7 * (n : Int))) ∧ w' = w := by
 obtain ⟨a, cap, rfl, hm⟩ := h.marked
 clear h
 by_cases hz : n = 0
 ·subst hz
  clear hm
  go_enter Tryz.func50, Tryz.ntmps50
  go_wp2
  go_loop [5, 1] (fun i y => i = .int .i64 0 ∧ y = .int .i64 z) (fun _ _ => 0)
  case atStart => exact ⟨rfl, rfl⟩
  case round =>
   obtain ⟨rfl, rfl⟩ := hrel
   go_wp2
   go_ret
   exact ⟨ret_int (by simp), rfl⟩
 ·obtain ⟨g, rfl, h⟩ := hm.resolve_left hz
  have HR : Hid (∀ j, j < n * 7 → w.cell? ⟨g, j, none⟩ = some (.int .i64 (z + (j : Int)))) := h
  clear h hz hm
  go_enter Tryz.func50, Tryz.ntmps50
  go_wp2
  go_loop [5, 1] (fun i y => ∃ k : Nat, k ≤ n ∧ i = .int .i64 k ∧ y = .int .i64 (z + 7 * (k : Int))) (fun i _ => n - (intOf i).toNat)
  case atStart => exact ⟨0, Nat.zero_le _, rfl, by simp⟩
  case round =>
   obtain ⟨k, hk, rfl, rfl⟩ := hrel
   by_cases hlt : k < n
   ·have hh := fun j (hj : j < 7) => HR.out (k * 7 + j) (by omega)
    obtain ⟨y, hy⟩ : ∃ y : Int, y = z + 7 * (k : Int) := ⟨_, rfl⟩
    have g0 := hh 0 (by omega)
    rw [show z + ((k * 7 + 0 : Nat) : Int) = y from by omega] at g0
    have g1 := hh 1 (by omega)
    rw [show z + ((k * 7 + 1 : Nat) : Int) = y + 1 from by omega] at g1
    have g2 := hh 2 (by omega)
    rw [show z + ((k * 7 + 2 : Nat) : Int) = y + 1 + 1 from by omega] at g2
    have g3 := hh 3 (by omega)
    rw [show z + ((k * 7 + 3 : Nat) : Int) = y + 1 + 1 + 1 from by omega] at g3
    have g4 := hh 4 (by omega)
    rw [show z + ((k * 7 + 4 : Nat) : Int) = y + 1 + 1 + 1 + 1 from by omega] at g4
    have g5 := hh 5 (by omega)
    rw [show z + ((k * 7 + 5 : Nat) : Int) = y + 1 + 1 + 1 + 1 + 1 from by omega] at g5
    have g6 := hh 6 (by omega)
    rw [show z + ((k * 7 + 6 : Nat) : Int) = y + 1 + 1 + 1 + 1 + 1 + 1 from by omega] at g6
    rw [Nat.add_zero] at g0
    clear hh
    have hy0 : 0 ≤ y := by omega
    have hy1 : y ≤ 1090000000 := by omega
    have HY : Hid (y = z + 7 * (k : Int)) := hy
    rw [← hy]
    clear hy
    go_wp2
    go_round
    case rel => exact ⟨k + 1, by omega, by go_num, by rw [show y + 1 + 1 + 1 + 1 + 1 + 1 + 1 = z + 7 * ((k + 1 : Nat) : Int) from by have := HY.out; omega]⟩
    case measure => simp [intOf]; omega
   ·go_wp2
    go_ret
    obtain rfl : k = n := by omega
    exact ⟨rfl, rfl⟩
end Go.Proofs.YthfhibnnkpbeiaaGreat
