/- MMark, MSz, MMarkH -/
import Derived.Test.YthfhibnnkpbeiaaGreatExactWorldNewG02
import Derived.Test.YthfhibnnkpbeiaaGreatExactWorldNewG01
/- markIntS, markOpS, markEventS from any number on; heldIntS, heldOpS, heldEventS. -/
namespace Go.Proofs.YthfhibnnkpbeiaaGreat
open Go.RowKit
theorem hidMMark {p : Prop} (h : p) : Hid p := h
def mkCells (z : Int) (n : Nat) : List Value := (List.range n).map fun i : Nat => .int .i64 (z + (i : Int))
theorem mkCells_length (z : Int) (n : Nat) : (mkCells z n).length = n := by simp [mkCells]
theorem mkCells_get {z : Int} {n i : Nat} (h : i < n) : (mkCells z n)[i]? = some (.int .i64 (z + (i : Int))) := by simp [mkCells, h]
def MkTo (w : World) (g N : Nat) (z : Int) (k : Nat) : Prop := g < w.heap.size ∧ (∀ j, j < N → (w.cell? ⟨g, j, none⟩).isSome = true ∧ w.frozen? ⟨g, j, none⟩ = false) ∧ ∀ i, i < k → w.cell? ⟨g, i, none⟩ = some (.int .i64 (z + (i : Int)))
theorem MkTo.put {w : World} {g N k : Nat} {z : Int} (h : MkTo w g N z k) (hk : k < N) {u : Int} (hu : u = z + (k : Int)) : MkTo (w.setCell ⟨g, k, none⟩ (.int .i64 u)) g N z (k + 1) := by
 subst hu
 have e1 : w.setCell ⟨g, k, none⟩ (.int .i64 (z + (k : Int))) = w.setCells g k [.int .i64 (z + (k : Int))] := rfl
 have hsame : ∀ j, j ≠ k → (w.setCell ⟨g, k, none⟩ (.int .i64 (z + (k : Int)))).cell? ⟨g, j, none⟩ = w.cell? ⟨g, j, none⟩ := fun j hj => by
  rw [e1]
  exact World.cell?_setCells_out g _ k w ⟨g, j, none⟩ (fun _ _ => by simp; omega)
 have hat : (w.setCell ⟨g, k, none⟩ (.int .i64 (z + (k : Int)))).cell? ⟨g, k, none⟩ = some (.int .i64 (z + (k : Int))) := by
  rw [e1]
  have h0 := World.cell?_setCells_in g [.int .i64 (z + (k : Int))] k w (fun j hj => by
   obtain rfl : j = 0 := by simpa using hj
   exact (h.2.1 k hk).1) 0 (by simp)
  simpa using h0
 refine ⟨by simpa using h.1, fun j hj => ⟨?_, ?_⟩, fun i hi => ?_⟩
 ·by_cases e : j = k
  ·subst e; rw [hat]; rfl
  ·rw [hsame j e]; exact (h.2.1 j hj).1
 ·rw [e1, World.frozen?_setCells]; exact (h.2.1 j hj).2
 ·by_cases e : i = k
  ·subst e; exact hat
  ·rw [hsame i e]; exact h.2.2 i (by omega)
theorem RowF.mkTo {F : Nat → Prop} {w : World} {x : Value} {n c : Nat} {cs : List Value} (h : RowF F w x n c cs) (z : Int) : ∃ a cap, x = .slice a n cap ∧ n ≤ cap ∧ cap ≤ maxLen ∧ (n = 0 ∨ ∃ g, a = some ⟨g, 0, none⟩ ∧ F g ∧ MkTo w g (n * c) z 0) := by
 obtain ⟨hl, a, cap, rfl, h1, h2, h⟩ := h
 refine ⟨a, cap, rfl, h1, h2, h.imp id ?_⟩
 rintro ⟨g, rfl, hF, hg, hc⟩
 refine ⟨g, rfl, hF, hg, fun j hj => ⟨?_, (hc j hj).2⟩, fun i hi => by omega⟩
 rw [(hc j hj).1, List.getElem?_eq_getElem (by omega)]
 rfl
theorem MkTo.row {F : Nat → Prop} {w : World} {g n c cap : Nat} {z : Int} (h : MkTo w g (n * c) z (n * c)) (hF : F g) (h1 : n ≤ cap) (h2 : cap ≤ maxLen) : RowF F w (.slice (some ⟨g, 0, none⟩) n cap) n c (mkCells z (n * c)) :=
 ⟨mkCells_length _ _, _, cap, rfl, h1, h2, .inr ⟨g, rfl, hF, h.1, fun j hj => ⟨by rw [mkCells_get hj]; exact h.2.2 j hj, (h.2.1 j hj).2⟩⟩⟩
theorem RowF.nil {F : Nat → Prop} {w : World} {a : Option Addr} {cap c : Nat} {z : Int} (h2 : cap ≤ maxLen) : RowF F w (.slice a 0 cap) 0 c (mkCells z (0 * c)) :=
 ⟨by simp [mkCells], a, cap, rfl, Nat.zero_le _, h2, .inl rfl⟩
theorem RowF.marked {F : Nat → Prop} {w : World} {x : Value} {n c : Nat} {z : Int} (h : RowF F w x n c (mkCells z (n * c))) : ∃ a cap, x = .slice a n cap ∧ (n = 0 ∨ ∃ g, a = some ⟨g, 0, none⟩ ∧ ∀ j, j < n * c → w.cell? ⟨g, j, none⟩ = some (.int .i64 (z + (j : Int)))) := by
 obtain ⟨hl, a, cap, rfl, h1, h2, h⟩ := h
 refine ⟨a, cap, rfl, h.imp id ?_⟩
 rintro ⟨g, rfl, hF, hg, hc⟩
 exact ⟨g, rfl, fun j hj => by rw [(hc j hj).1, mkCells_get hj]⟩
theorem one_add (w : World) (g o : Nat) (u : Value) : Turns (fun b => b = g) w (w.setCell ⟨g, o, none⟩ u) := (Turns.refl (fun b => b = g) w).setCell (p := ⟨g, o, none⟩) rfl _
set_option maxHeartbeats 2000000 in
theorem markIF {F : Nat → Prop} {x : Value} {n : Nat} {cs : List Value} {w : World} (z : Int) (hn : n ≤ 1048577) (hz0 : 0 ≤ z) (hz1 : z ≤ 1073741824) (h : RowF F w x n 1 cs) :
  Calls Tryz.prog 14 #[x, .int .i64 z] w fun e w' => e = .returned (.int .i64 (z + (n : Int))) ∧ RowF F w' x n 1 (mkCells z (n * 1)) ∧ Turns F w w' := by
 obtain ⟨a, cap, rfl, h1, h2, h⟩ := h.mkTo z
 have HM : Hid (n ≤ cap ∧ cap ≤ maxLen) := ⟨h1, h2⟩
 clear h1 h2
 by_cases hz : n = 0
 ·subst hz
  clear h
  go_enter Tryz.func14, Tryz.ntmps14
  go_wp2
  go_loop [5, 1] (fun i y => i = .int .i64 0 ∧ y = .int .i64 z) (fun _ _ => 0)
  case atStart => exact ⟨rfl, rfl⟩
  case round =>
   obtain ⟨rfl, rfl⟩ := hrel
   go_wp2
   go_ret
   exact ⟨ret_int (by simp), RowF.nil HM.out.2, Turns.refl _ _⟩
 ·obtain ⟨g, rfl, hF, h⟩ := h.resolve_left hz
  have HR0 : Hid (MkTo w g n z 0) := by rw [Nat.mul_one] at h; exact h
  have HF : Hid (F g) := hF
  clear h hz hF
  go_enter Tryz.func14, Tryz.ntmps14
  go_wp2
  go_loopw [5, 1] (fun i y wr => ∃ k : Nat, k ≤ n ∧ i = .int .i64 k ∧ y = .int .i64 (z + (k : Int)) ∧ MkTo wr g n z k ∧ Turns (fun b => b = g) w wr) (fun i _ _ => n - (intOf i).toNat)
  case atStart => exact ⟨0, Nat.zero_le _, rfl, by simp, HR0.out, Turns.refl _ _⟩
  case round =>
   obtain ⟨k, hk, rfl, rfl, hR, hg⟩ := hrel
   have HR : Hid (MkTo wr g n z k) := hR
   have HG := hidMMark hg
   clear hR hg
   by_cases hlt : k < n
   ·obtain ⟨v, hv⟩ := Option.isSome_iff_exists.1 (HR.out.2.1 k hlt).1
    have hf := (HR.out.2.1 k hlt).2
    obtain ⟨y, hy⟩ : ∃ y : Int, y = z + (k : Int) := ⟨_, rfl⟩
    have hy0 : 0 ≤ y := by omega
    have hy1 : y ≤ 1075000000 := by omega
    have HY : Hid (y = z + (k : Int)) := hy
    rw [← hy]
    clear hy
    go_wp2
    go_roundw
    case rel => exact ⟨k + 1, by omega, by go_num, by rw [show y + 1 = z + ((k + 1 : Nat) : Int) from by have := HY.out; omega], HR.out.put hlt HY.out, HG.out.trans (one_add _ _ _ _)⟩
    case measure => simp [intOf]; omega
   ·go_wp2
    go_ret
    obtain rfl : k = n := by omega
    exact ⟨rfl, MkTo.row (by rw [Nat.mul_one]; exact HR.out) HF.out HM.out.1 HM.out.2, HG.out.mono (fun k e => e ▸ HF.out)⟩
set_option maxHeartbeats 2000000 in
theorem heldIF {F : Nat → Prop} {x : Value} {n : Nat} {w : World} (z : Int) (hn : n ≤ 1048577) (hz0 : 0 ≤ z) (hz1 : z ≤ 1073741824) (h : RowF F w x n 1 (mkCells z (n * 1))) :
  Calls Tryz.prog 47 #[x, .int .i64 z] w fun e w' => e = .returned (.int .i64 (z + (n : Int))) ∧ w' = w := by
 obtain ⟨a, cap, rfl, hm⟩ := h.marked
 clear h
 by_cases hz : n = 0
 ·subst hz
  clear hm
  go_enter Tryz.func47, Tryz.ntmps47
  go_wp2
  go_loop [5, 1] (fun i y => i = .int .i64 0 ∧ y = .int .i64 z) (fun _ _ => 0)
  case atStart => exact ⟨rfl, rfl⟩
  case round =>
   obtain ⟨rfl, rfl⟩ := hrel
   go_wp2
   go_ret
   exact ⟨ret_int (by simp), rfl⟩
 ·obtain ⟨g, rfl, h⟩ := hm.resolve_left hz
  have HR := hidMMark h
  clear h hz hm
  go_enter Tryz.func47, Tryz.ntmps47
  go_wp2
  go_loop [5, 1] (fun i y => ∃ k : Nat, k ≤ n ∧ i = .int .i64 k ∧ y = .int .i64 (z + (k : Int))) (fun i _ => n - (intOf i).toNat)
  case atStart => exact ⟨0, Nat.zero_le _, rfl, by simp⟩
  case round =>
   obtain ⟨k, hk, rfl, rfl⟩ := hrel
   by_cases hlt : k < n
   ·have hev := HR.out k (by omega)
    obtain ⟨y, hy⟩ : ∃ y : Int, y = z + (k : Int) := ⟨_, rfl⟩
    have hy0 : 0 ≤ y := by omega
    have hy1 : y ≤ 1075000000 := by omega
    have HY : Hid (y = z + (k : Int)) := hy
    rw [← hy] at hev ⊢
    clear hy
    go_wp2
    go_round
    case rel => exact ⟨k + 1, by omega, by go_num, by rw [show y + 1 = z + ((k + 1 : Nat) : Int) from by have := HY.out; omega]⟩
    case measure => simp [intOf]; omega
   ·go_wp2
    go_ret
    obtain rfl : k = n := by omega
    exact ⟨rfl, rfl⟩
set_option maxHeartbeats 4000000 in
theorem markOF {F : Nat → Prop} {x : Value} {n : Nat} {cs : List Value} {w : World} (z : Int) (hn : n ≤ 1048577) (hz0 : 0 ≤ z) (hz1 : z ≤ 1073741824) (h : RowF F w x n 4 cs) :
  Calls Tryz.prog 88 #[x, .int .i64 z] w fun e w' => e = .returned (.int .i64 (z + 4 * (n : Int))) ∧ RowF F w' x n 4 (mkCells z (n * 4)) ∧ Turns F w w' := by
 obtain ⟨a, cap, rfl, h1, h2, h⟩ := h.mkTo z
 have HM : Hid (n ≤ cap ∧ cap ≤ maxLen) := ⟨h1, h2⟩
 clear h1 h2
 by_cases hz : n = 0
 ·subst hz
  clear h
  go_enter Tryz.func88, Tryz.ntmps88
  go_wp2
  go_loop [5, 1] (fun i y => i = .int .i64 0 ∧ y = .int .i64 z) (fun _ _ => 0)
  case atStart => exact ⟨rfl, rfl⟩
  case round =>
   obtain ⟨rfl, rfl⟩ := hrel
   go_wp2
   go_ret
   exact ⟨ret_int (by simp), RowF.nil HM.out.2, Turns.refl _ _⟩
 ·obtain ⟨g, rfl, hF, h⟩ := h.resolve_left hz
  have HR0 := hidMMark h
  have HF : Hid (F g) := hF
  clear h hz hF
  go_enter Tryz.func88, Tryz.ntmps88
  go_wp2
  go_loopw [5, 1] (fun i y wr => ∃ k : Nat, k ≤ n ∧ i = .int .i64 k ∧ y = .int .i64 (z + 4 * (k : Int)) ∧ MkTo wr g (n * 4) z (k * 4) ∧ Turns (fun b => b = g) w wr) (fun i _ _ => n - (intOf i).toNat)
  case atStart => exact ⟨0, Nat.zero_le _, rfl, by simp, by rw [Nat.zero_mul]; exact HR0.out, Turns.refl _ _⟩
  case round =>
   obtain ⟨k, hk, rfl, rfl, hR, hg⟩ := hrel
   have HR := hidMMark hR
   have HG := hidMMark hg
   clear hR hg
   by_cases hlt : k < n
   ·have hh : ∀ j, j < 4 → (∃ u, wr.cell? ⟨g, k * 4 + j, none⟩ = some u) ∧ wr.frozen? ⟨g, k * 4 + j, none⟩ = false := fun j hj => ⟨Option.isSome_iff_exists.1 (HR.out.2.1 _ (by omega)).1, (HR.out.2.1 _ (by omega)).2⟩
    obtain ⟨⟨v0, g0⟩, f0⟩ := hh 0 (by omega)
    obtain ⟨⟨v1, g1⟩, f1⟩ := hh 1 (by omega)
    obtain ⟨⟨v2, g2⟩, f2⟩ := hh 2 (by omega)
    obtain ⟨⟨v3, g3⟩, f3⟩ := hh 3 (by omega)
    rw [Nat.add_zero] at g0 f0
    clear hh
    obtain ⟨y, hy⟩ : ∃ y : Int, y = z + 4 * (k : Int) := ⟨_, rfl⟩
    have hy0 : 0 ≤ y := by omega
    have hy1 : y ≤ 1090000000 := by omega
    have HY := hidMMark hy
    rw [← hy]
    clear hy
    go_wp2
    go_roundw
    case rel =>
     have hY := HY.out
     refine ⟨k + 1, by omega, by go_num, by rw [show y + 1 + 1 + 1 + 1 = z + 4 * ((k + 1 : Nat) : Int) from by omega], ?_, ?_⟩
     ·rw [show (k + 1) * 4 = k * 4 + 4 from by omega]
      exact (((HR.out.put (by omega) (u := y) (by omega)).put (by omega) (u := y + 1) (by omega)).put (by omega) (u := y + 1 + 1) (by omega)).put (by omega) (u := y + 1 + 1 + 1) (by omega)
     ·exact HG.out.trans ((((one_add wr g _ _).trans (one_add _ _ _ _)).trans (one_add _ _ _ _)).trans (one_add _ _ _ _))
    case measure => simp [intOf]; omega
   ·go_wp2
    go_ret
    obtain rfl : k = n := by omega
    exact ⟨rfl, MkTo.row HR.out HF.out HM.out.1 HM.out.2, HG.out.mono (fun k e => e ▸ HF.out)⟩
set_option maxHeartbeats 4000000 in
theorem heldOF {F : Nat → Prop} {x : Value} {n : Nat} {w : World} (z : Int) (hn : n ≤ 1048577) (hz0 : 0 ≤ z) (hz1 : z ≤ 1073741824) (h : RowF F w x n 4 (mkCells z (n * 4))) :
  Calls Tryz.prog 111 #[x, .int .i64 z] w fun e w' => e = .returned (.int .i64 (z + 4 * (n : Int))) ∧ w' = w := by
 obtain ⟨a, cap, rfl, hm⟩ := h.marked
 clear h
 by_cases hz : n = 0
 ·subst hz
  clear hm
  go_enter Tryz.func111, Tryz.ntmps111
  go_wp2
  go_loop [5, 1] (fun i y => i = .int .i64 0 ∧ y = .int .i64 z) (fun _ _ => 0)
  case atStart => exact ⟨rfl, rfl⟩
  case round =>
   obtain ⟨rfl, rfl⟩ := hrel
   go_wp2
   go_ret
   exact ⟨ret_int (by simp), rfl⟩
 ·obtain ⟨g, rfl, h⟩ := hm.resolve_left hz
  have HR := hidMMark h
  clear h hz hm
  go_enter Tryz.func111, Tryz.ntmps111
  go_wp2
  go_loop [5, 1] (fun i y => ∃ k : Nat, k ≤ n ∧ i = .int .i64 k ∧ y = .int .i64 (z + 4 * (k : Int))) (fun i _ => n - (intOf i).toNat)
  case atStart => exact ⟨0, Nat.zero_le _, rfl, by simp⟩
  case round =>
   obtain ⟨k, hk, rfl, rfl⟩ := hrel
   by_cases hlt : k < n
   ·have hh := fun j (hj : j < 4) => HR.out (k * 4 + j) (by omega)
    obtain ⟨y, hy⟩ : ∃ y : Int, y = z + 4 * (k : Int) := ⟨_, rfl⟩
    have g0 := hh 0 (by omega)
    rw [show z + ((k * 4 + 0 : Nat) : Int) = y from by omega] at g0
    have g1 := hh 1 (by omega)
    rw [show z + ((k * 4 + 1 : Nat) : Int) = y + 1 from by omega] at g1
    have g2 := hh 2 (by omega)
    rw [show z + ((k * 4 + 2 : Nat) : Int) = y + 1 + 1 from by omega] at g2
    have g3 := hh 3 (by omega)
    rw [show z + ((k * 4 + 3 : Nat) : Int) = y + 1 + 1 + 1 from by omega] at g3
    rw [Nat.add_zero] at g0
    clear hh
    have hy0 : 0 ≤ y := by omega
    have hy1 : y ≤ 1090000000 := by omega
    have HY := hidMMark hy
    rw [← hy]
    clear hy
    go_wp2
    go_round
    case rel => exact ⟨k + 1, by omega, by go_num, by rw [show y + 1 + 1 + 1 + 1 = z + 4 * ((k + 1 : Nat) : Int) from by have := HY.out; omega]⟩
    case measure => simp [intOf]; omega
   ·go_wp2
    go_ret
    obtain rfl : k = n := by omega
    exact ⟨rfl, rfl⟩
set_option maxHeartbeats 4000000 in
theorem markEF {F : Nat → Prop} {x : Value} {n : Nat} {cs : List Value} {w : World} (z : Int) (hn : n ≤ 1048577) (hz0 : 0 ≤ z) (hz1 : z ≤ 1073741824) (h : RowF F w x n 7 cs) :
  Calls Tryz.prog 42 #[x, .int .i64 z] w fun e w' => e = .returned (.int .i64 (z + 7 * (n : Int))) ∧ RowF F w' x n 7 (mkCells z (n * 7)) ∧ Turns F w w' := by
 obtain ⟨a, cap, rfl, h1, h2, h⟩ := h.mkTo z
 have HM : Hid (n ≤ cap ∧ cap ≤ maxLen) := ⟨h1, h2⟩
 clear h1 h2
 by_cases hz : n = 0
 ·subst hz
  clear h
  go_enter Tryz.func42, Tryz.ntmps42
  go_wp2
  go_loop [5, 1] (fun i y => i = .int .i64 0 ∧ y = .int .i64 z) (fun _ _ => 0)
  case atStart => exact ⟨rfl, rfl⟩
  case round =>
   obtain ⟨rfl, rfl⟩ := hrel
   go_wp2
   go_ret
   exact ⟨ret_int (by simp), RowF.nil HM.out.2, Turns.refl _ _⟩
 ·obtain ⟨g, rfl, hF, h⟩ := h.resolve_left hz
  have HR0 := hidMMark h
  have HF : Hid (F g) := hF
  clear h hz hF
  go_enter Tryz.func42, Tryz.ntmps42
  go_wp2
  go_loopw [5, 1] (fun i y wr => ∃ k : Nat, k ≤ n ∧ i = .int .i64 k ∧ y = .int .i64 (z + 7 * (k : Int)) ∧ MkTo wr g (n * 7) z (k * 7) ∧ Turns (fun b => b = g) w wr) (fun i _ _ => n - (intOf i).toNat)
  case atStart => exact ⟨0, Nat.zero_le _, rfl, by simp, by rw [Nat.zero_mul]; exact HR0.out, Turns.refl _ _⟩
  case round =>
   obtain ⟨k, hk, rfl, rfl, hR, hg⟩ := hrel
   have HR := hidMMark hR
   have HG := hidMMark hg
   clear hR hg
   by_cases hlt : k < n
   ·have hh : ∀ j, j < 7 → (∃ u, wr.cell? ⟨g, k * 7 + j, none⟩ = some u) ∧ wr.frozen? ⟨g, k * 7 + j, none⟩ = false := fun j hj => ⟨Option.isSome_iff_exists.1 (HR.out.2.1 _ (by omega)).1, (HR.out.2.1 _ (by omega)).2⟩
    obtain ⟨⟨v0, g0⟩, f0⟩ := hh 0 (by omega)
    obtain ⟨⟨v1, g1⟩, f1⟩ := hh 1 (by omega)
    obtain ⟨⟨v2, g2⟩, f2⟩ := hh 2 (by omega)
    obtain ⟨⟨v3, g3⟩, f3⟩ := hh 3 (by omega)
    obtain ⟨⟨v4, g4⟩, f4⟩ := hh 4 (by omega)
    obtain ⟨⟨v5, g5⟩, f5⟩ := hh 5 (by omega)
    obtain ⟨⟨v6, g6⟩, f6⟩ := hh 6 (by omega)
    rw [Nat.add_zero] at g0 f0
    clear hh
    obtain ⟨y, hy⟩ : ∃ y : Int, y = z + 7 * (k : Int) := ⟨_, rfl⟩
    have hy0 : 0 ≤ y := by omega
    have hy1 : y ≤ 1090000000 := by omega
    have HY := hidMMark hy
    rw [← hy]
    clear hy
    go_wp2
    go_roundw
    case rel =>
     have hY := HY.out
     refine ⟨k + 1, by omega, by go_num, by rw [show y + 1 + 1 + 1 + 1 + 1 + 1 + 1 = z + 7 * ((k + 1 : Nat) : Int) from by omega], ?_, ?_⟩
     ·rw [show (k + 1) * 7 = k * 7 + 7 from by omega]
      exact ((((((HR.out.put (by omega) (u := y) (by omega)).put (by omega) (u := y + 1) (by omega)).put (by omega) (u := y + 1 + 1) (by omega)).put (by omega) (u := y + 1 + 1 + 1) (by omega)).put (by omega) (u := y + 1 + 1 + 1 + 1) (by omega)).put (by omega) (u := y + 1 + 1 + 1 + 1 + 1) (by omega)).put (by omega) (u := y + 1 + 1 + 1 + 1 + 1 + 1) (by omega)
     ·exact HG.out.trans (((((((one_add wr g _ _).trans (one_add _ _ _ _)).trans (one_add _ _ _ _)).trans (one_add _ _ _ _)).trans (one_add _ _ _ _)).trans (one_add _ _ _ _)).trans (one_add _ _ _ _))
    case measure => simp [intOf]; omega
   ·go_wp2
    go_ret
    obtain rfl : k = n := by omega
    exact ⟨rfl, MkTo.row HR.out HF.out HM.out.1 HM.out.2, HG.out.mono (fun k e => e ▸ HF.out)⟩
set_option maxHeartbeats 4000000 in
theorem heldEF {F : Nat → Prop} {x : Value} {n : Nat} {w : World} (z : Int) (hn : n ≤ 1048577) (hz0 : 0 ≤ z) (hz1 : z ≤ 1073741824) (h : RowF F w x n 7 (mkCells z (n * 7))) :
  Calls Tryz.prog 50 #[x, .int .i64 z] w fun e w' => e = .returned (.int .i64 (z + 7 * (n : Int))) ∧ w' = w := by
 obtain ⟨a, cap, rfl, hm⟩ := h.marked
 clear h
 by_cases hz : n = 0
 ·subst hz
  clear hm
  go_enter Tryz.func50, Tryz.ntmps50
  go_wp2
  go_loop [5, 1] (fun i y => i = .int .i64 0 ∧ y = .int .i64 z) (fun _ _ => 0)
  case atStart => exact ⟨rfl, rfl⟩
  case round =>
   obtain ⟨rfl, rfl⟩ := hrel
   go_wp2
   go_ret
   exact ⟨ret_int (by simp), rfl⟩
 ·obtain ⟨g, rfl, h⟩ := hm.resolve_left hz
  have HR := hidMMark h
  clear h hz hm
  go_enter Tryz.func50, Tryz.ntmps50
  go_wp2
  go_loop [5, 1] (fun i y => ∃ k : Nat, k ≤ n ∧ i = .int .i64 k ∧ y = .int .i64 (z + 7 * (k : Int))) (fun i _ => n - (intOf i).toNat)
  case atStart => exact ⟨0, Nat.zero_le _, rfl, by simp⟩
  case round =>
   obtain ⟨k, hk, rfl, rfl⟩ := hrel
   by_cases hlt : k < n
   ·have hh := fun j (hj : j < 7) => HR.out (k * 7 + j) (by omega)
    obtain ⟨y, hy⟩ : ∃ y : Int, y = z + 7 * (k : Int) := ⟨_, rfl⟩
    have g0 := hh 0 (by omega)
    rw [show z + ((k * 7 + 0 : Nat) : Int) = y from by omega] at g0
    have g1 := hh 1 (by omega)
    rw [show z + ((k * 7 + 1 : Nat) : Int) = y + 1 from by omega] at g1
    have g2 := hh 2 (by omega)
    rw [show z + ((k * 7 + 2 : Nat) : Int) = y + 1 + 1 from by omega] at g2
    have g3 := hh 3 (by omega)
    rw [show z + ((k * 7 + 3 : Nat) : Int) = y + 1 + 1 + 1 from by omega] at g3
    have g4 := hh 4 (by omega)
    rw [show z + ((k * 7 + 4 : Nat) : Int) = y + 1 + 1 + 1 + 1 from by omega] at g4
    have g5 := hh 5 (by omega)
    rw [show z + ((k * 7 + 5 : Nat) : Int) = y + 1 + 1 + 1 + 1 + 1 from by omega] at g5
    have g6 := hh 6 (by omega)
    rw [show z + ((k * 7 + 6 : Nat) : Int) = y + 1 + 1 + 1 + 1 + 1 + 1 from by omega] at g6
    rw [Nat.add_zero] at g0
    clear hh
    have hy0 : 0 ≤ y := by omega
    have hy1 : y ≤ 1090000000 := by omega
    have HY := hidMMark hy
    rw [← hy]
    clear hy
    go_wp2
    go_round
    case rel => exact ⟨k + 1, by omega, by go_num, by rw [show y + 1 + 1 + 1 + 1 + 1 + 1 + 1 = z + 7 * ((k + 1 : Nat) : Int) from by have := HY.out; omega]⟩
    case measure => simp [intOf]; omega
   ·go_wp2
    go_ret
    obtain rfl : k = n := by omega
    exact ⟨rfl, rfl⟩
end Go.Proofs.YthfhibnnkpbeiaaGreat

/- szModel: whether there is too much of it. -/
namespace Go.Proofs.YthfhibnnkpbeiaaGreat
open Go.RowKit
theorem hidMSz {p : Prop} (h : p) : Hid p := h
def szN (n left : Int) : Int := if left - n < 0 then -1 else left - n
set_option maxHeartbeats 400000 in
theorem szI_any (a : Option Addr) (n cap : Nat) (left : Int) (w : World) (hn : n ≤ maxLen) (h0 : 0 ≤ left) (h1 : left ≤ 1048576) :
  Calls Tryz.prog 22 #[.slice a n cap, .int .i64 left] w fun e w' => e = .returned (.int .i64 (szN n left)) ∧ w' = w := by
 unfold maxLen at hn
 by_cases hp : left - (n : Int) < 0
 ·go_enter Tryz.func22, Tryz.ntmps22
  go_wp2
  go_ret
  exact ⟨ret_int (by unfold szN; rw [if_pos hp]), rfl⟩
 ·go_enter Tryz.func22, Tryz.ntmps22
  go_wp2
  go_ret
  exact ⟨ret_int (by unfold szN; rw [if_neg (by omega)]), rfl⟩
set_option maxHeartbeats 400000 in
theorem szE_any (a : Option Addr) (n cap : Nat) (left : Int) (w : World) (hn : n ≤ maxLen) (h0 : 0 ≤ left) (h1 : left ≤ 1048576) :
  Calls Tryz.prog 24 #[.slice a n cap, .int .i64 left] w fun e w' => e = .returned (.int .i64 (szN n left)) ∧ w' = w := by
 unfold maxLen at hn
 by_cases hp : left - (n : Int) < 0
 ·go_enter Tryz.func24, Tryz.ntmps24
  go_wp2
  go_ret
  exact ⟨ret_int (by unfold szN; rw [if_pos hp]), rfl⟩
 ·go_enter Tryz.func24, Tryz.ntmps24
  go_wp2
  go_ret
  exact ⟨ret_int (by unfold szN; rw [if_neg (by omega)]), rfl⟩
set_option maxHeartbeats 400000 in
theorem szO_any (a : Option Addr) (n cap : Nat) (left : Int) (w : World) (hn : n ≤ maxLen) (h0 : 0 ≤ left) (h1 : left ≤ 1048576) :
  Calls Tryz.prog 62 #[.slice a n cap, .int .i64 left] w fun e w' => e = .returned (.int .i64 (szN n left)) ∧ w' = w := by
 unfold maxLen at hn
 by_cases hp : left - (n : Int) < 0
 ·go_enter Tryz.func62, Tryz.ntmps62
  go_wp2
  go_ret
  exact ⟨ret_int (by unfold szN; rw [if_pos hp]), rfl⟩
 ·go_enter Tryz.func62, Tryz.ntmps62
  go_wp2
  go_ret
  exact ⟨ret_int (by unfold szN; rw [if_neg (by omega)]), rfl⟩
def sumL (L : Nat → Nat) : Nat → Nat
 | 0 => 0
 | k + 1 => sumL L k + L k
def lens (l : List (List O)) (i : Nat) : Nat := (hAt l i).length
def SzH (l : List (List O)) (left r : Int) : Prop := (r = -1) ∨ (0 ≤ r ∧ r ≤ left ∧ (l.length : Int) ≤ 1048576 ∧ (∀ i, (hAt l i).length ≤ 1048576) ∧ sumL (lens l) l.length ≤ 1048576)
theorem hAt_out {l : List (List O)} {i : Nat} (h : l.length ≤ i) : hAt l i = [] := by simp [hAt, h]
set_option maxHeartbeats 1000000 in
theorem szH_any (x : Value) (l : List (List O)) (left : Int) (w : World) (h : IsH w x l) (h0 : 0 ≤ left) (h1 : left ≤ 1048576) :
  Calls Tryz.prog 23 #[x, .int .i64 left] w fun e w' => (∃ r, e = .returned (.int .i64 r) ∧ SzH l left r) ∧ w' = w := by
 obtain ⟨a, cap, rfl, hn1, hn, h⟩ := h
 have hn2 : l.length ≤ 9223372036854775807 := by unfold maxLen at hn; omega
 clear hn1 hn
 by_cases hp : left - (l.length : Int) < 0
 ·go_enter Tryz.func23, Tryz.ntmps23
  go_wp2
  go_ret
  exact ⟨⟨_, rfl, .inl rfl⟩, rfl⟩
 ·have HLF : Hid (0 ≤ left - (l.length : Int)) := (by omega : 0 ≤ left - (l.length : Int))
  go_enter Tryz.func23, Tryz.ntmps23
  go_wp2
  go_loop [5, 1] (fun i z => ∃ k : Nat, k ≤ l.length ∧ i = .int .i64 k ∧ ∃ lf : Int, z = .int .i64 lf ∧ 0 ≤ lf ∧ lf + (sumL (lens l) k : Int) ≤ left ∧ ∀ j, j < k → (hAt l j).length ≤ 1048576) (fun i _ => l.length - (intOf i).toNat)
  case atStart => exact ⟨0, Nat.zero_le _, rfl, left - (l.length : Int), rfl, HLF.out, by simp [sumL]; omega, fun j hj => by omega⟩
  case round =>
   obtain ⟨k, hk, rfl, lf2, rfl, hz0, hz1, hall⟩ := hrel
   have HA := hidMSz hall
   have HZ := hidMSz hz1
   clear hall
   replace hz1 : lf2 ≤ left := by omega
   by_cases hlt : k < l.length
   ·obtain ⟨b, off, rfl, hb, hc⟩ := h.resolve_left (by intro e; subst e; simp at hlt)
    obtain ⟨u, f0, a1, c1, rfl, hu1, hu2, _⟩ := hc k hlt
    have HM := hidMSz (Nat.le_trans hu1 hu2)
    clear h hc hu1 hu2
    go_wp2_with fail
    refine (szO_any _ _ _ _ _ HM.out hz0 (by omega)).mono ?_
    rintro e w' ⟨rfl, hw⟩
    have hw' := hw.symm
    clear hw
    subst hw'
    by_cases hq : lf2 - ((hAt l k).length : Int) < 0
    ·have e1 : szN (hAt l k).length lf2 = -1 := by unfold szN; rw [if_pos hq]
     rw [e1]
     clear e1
     go_wp2
     go_ret
     exact ⟨⟨_, rfl, .inl rfl⟩, rfl⟩
    ·have e1 : szN (hAt l k).length lf2 = lf2 - ((hAt l k).length : Int) := by unfold szN; rw [if_neg (by omega)]
     rw [e1]
     clear e1
     obtain ⟨r, hr⟩ : ∃ r : Int, r = lf2 - ((hAt l k).length : Int) := ⟨_, rfl⟩
     rw [← hr] at hq ⊢
     have hr0 : 0 ≤ r := by omega
     have HR := hidMSz hr
     clear hr
     go_wp2
     go_round
     case rel => exact ⟨k + 1, by omega, by go_num, r, rfl, hr0, by have := HR.out; have := HZ.out; simp only [sumL, show lens l k = (hAt l k).length from rfl]; omega, fun j hj => by
      by_cases e : j < k
      ·exact HA.out j e
      ·rw [show j = k by omega]; have := HR.out; omega⟩
     case measure => simp [intOf]; omega
   ·clear h
    go_wp2
    go_ret
    obtain rfl : k = l.length := by omega
    exact ⟨⟨_, rfl, .inr ⟨hz0, by omega, by have := HLF.out; omega, (fun i => by
     by_cases e : i < l.length
     ·exact HA.out i e
     ·rw [hAt_out (by omega)]; simp), by have := HZ.out; omega⟩⟩, rfl⟩
end Go.Proofs.YthfhibnnkpbeiaaGreat

/- markOpSS, heldOpSS. -/
namespace Go.Proofs.YthfhibnnkpbeiaaGreat
open Go.RowKit
theorem hidMMarkH {p : Prop} (h : p) : Hid p := h
theorem sumL_mono (L : Nat → Nat) : ∀ {i j : Nat}, i ≤ j → sumL L i ≤ sumL L j := by
 intro i j h
 induction h with
 | refl => exact Nat.le_refl _
 | step _ ih => exact Nat.le_trans ih (by simp [sumL])
theorem RowsF.step {F : Nat → Prop} {w : World} {x : Value} {n : Nat} {U : Nat → Value} {L : Nat → Nat} {C : Nat → List Value} (h : RowsF F w x n U L C) {k : Nat} (hk : k < n) :
  ∃ K : Nat → Prop, RowF K w (U k) (L k) 4 (C k) ∧ (∀ b, K b → F b) ∧ ∀ w' cs, RowF K w' (U k) (L k) 4 cs → Turns K w w' → RowsF F w' x n U L (fun i => if i = k then cs else C i) := by
 obtain ⟨F0, G, h0, hF, h1, h2⟩ := h
 refine ⟨G k, (h1 k hk).1, fun b hb => ((h1 k hk).2 b hb).1, fun w' cs hr ht => ⟨F0, G, h0.turns ht (fun b hb hg => ((h1 k hk).2 b hg).2 hb), hF, fun i hi => ⟨?_, (h1 i hi).2⟩, h2⟩⟩
 by_cases e : i = k
 ·subst e
  simpa using hr
 ·simp only [if_neg e]
  exact (h1 i hi).1.turns ht (fun b hb hg => h2 i k hi hk e b hb hg)
theorem RowsF.slice {F : Nat → Prop} {w : World} {x : Value} {n : Nat} {U : Nat → Value} {L : Nat → Nat} {C : Nat → List Value} (h : RowsF F w x n U L C) : ∃ a cap, x = .slice a n cap ∧ (n = 0 ∨ ∃ g, a = some ⟨g, 0, none⟩) := by
 obtain ⟨F0, G, ⟨_, a, cap, e, _, _, h⟩, _⟩ := h
 exact ⟨a, cap, e, h.imp id (fun ⟨g, e, _⟩ => ⟨g, e⟩)⟩
theorem RowsF.cell {F : Nat → Prop} {w : World} {n cap g : Nat} {U : Nat → Value} {L : Nat → Nat} {C : Nat → List Value} (h : RowsF F w (.slice (some ⟨g, 0, none⟩) n cap) n U L C) {i : Nat} (hi : i < n) : w.cell? ⟨g, i, none⟩ = some (U i) := by
 obtain ⟨F0, G, ⟨_, a, cap', e, _, _, h⟩, _⟩ := h
 rcases h with h | ⟨g', e', _, _, hc⟩
 ·omega
 ·subst e'
  simp at e
  obtain ⟨rfl, rfl⟩ := e
  rw [(hc i (by omega)).1]
  simp [hi]
theorem RowsF.len {F : Nat → Prop} {w : World} {x : Value} {n : Nat} {U : Nat → Value} {L : Nat → Nat} {C : Nat → List Value} (h : RowsF F w x n U L C) {i : Nat} (hi : i < n) : ∃ a cap, U i = .slice a (L i) cap := by
 obtain ⟨F0, G, _, _, h1, _⟩ := h
 obtain ⟨⟨_, a, cap, e, _⟩, _⟩ := h1 i hi
 exact ⟨a, cap, e⟩
def mkRows (z : Int) (L : Nat → Nat) (i : Nat) : List Value := mkCells (z + 4 * (sumL L i : Int)) (L i * 4)
theorem RowsF.congr {F : Nat → Prop} {w : World} {x : Value} {n : Nat} {U : Nat → Value} {L : Nat → Nat} {C C' : Nat → List Value} (h : RowsF F w x n U L C) (hC : ∀ i, i < n → C i = C' i) : RowsF F w x n U L C' := by
 obtain ⟨F0, G, h0, hF, h1, h2⟩ := h
 exact ⟨F0, G, h0, hF, fun i hi => by rw [← hC i hi]; exact h1 i hi, h2⟩
set_option maxHeartbeats 4000000 in
theorem markHF {F : Nat → Prop} {x : Value} {n : Nat} {U : Nat → Value} {L : Nat → Nat} {C : Nat → List Value} {w : World} (z : Int) (hn : n ≤ 1048577) (hL : sumL L n ≤ 1048577) (hz0 : 0 ≤ z) (hz1 : z ≤ 1000000000) (h : RowsF F w x n U L C) :
  Calls Tryz.prog 41 #[x, .int .i64 z] w fun e w' => e = .returned (.int .i64 (z + 4 * (sumL L n : Int))) ∧ RowsF F w' x n U L (mkRows z L) ∧ Turns F w w' := by
 obtain ⟨a, cap, rfl, ha⟩ := h.slice
 have HR0 := hidMMarkH h
 have HL : Hid (sumL L n ≤ 1048577) := hL
 clear h hL
 go_enter Tryz.func41, Tryz.ntmps41
 go_wp2
 go_loopw [5, 1] (fun i y wr => ∃ k : Nat, k ≤ n ∧ i = .int .i64 k ∧ y = .int .i64 (z + 4 * (sumL L k : Int)) ∧ RowsF F wr (.slice a n cap) n U L (fun i => if i < k then mkRows z L i else C i) ∧ Turns F w wr) (fun i _ _ => n - (intOf i).toNat)
 case atStart => exact ⟨0, Nat.zero_le _, rfl, by simp [sumL], HR0.out.congr (fun i _ => by simp), Turns.refl _ _⟩
 case round =>
  obtain ⟨k, hk, rfl, rfl, hR, hg⟩ := hrel
  have HR := hidMMarkH hR
  have HG : Hid (Turns F w wr) := hg
  clear hR hg
  by_cases hlt : k < n
  ·obtain ⟨g, rfl⟩ := ha.resolve_left (by omega)
   have hc := HR.out.cell hlt
   obtain ⟨a1, c1, e1⟩ := HR.out.len hlt
   obtain ⟨K, hK1, hK2, hK3⟩ := HR.out.step hlt
   have HK1 := hidMMarkH hK1
   have HK2 : Hid (∀ b, K b → F b) := hK2
   have HK3 := hidMMarkH hK3
   have hs : sumL L k + L k ≤ 1048577 := Nat.le_trans (sumL_mono L (show k + 1 ≤ n from hlt)) HL.out
   have E1 := hidMMarkH e1
   rw [e1] at hc
   clear hK1 hK2 hK3 ha e1
   obtain ⟨y, hy⟩ : ∃ y : Int, y = z + 4 * (sumL L k : Int) := ⟨_, rfl⟩
   have hy0 : 0 ≤ y := by omega
   have hy1 : y ≤ 1073741824 := by omega
   have HY := hidMMarkH hy
   rw [← hy]
   clear hy
   go_wp2_with fail
   refine (markOF (F := K) (n := L k) y (by omega) hy0 hy1 (by have := HK1.out; rw [E1.out] at this; exact this)).mono ?_
   rintro e w2 ⟨rfl, hr, ht⟩
   have HR2 : Hid (RowsF F w2 (.slice (some ⟨g, 0, none⟩) n cap) n U L (fun i => if i < k + 1 then mkRows z L i else C i)) := by
    refine (HK3.out w2 _ (by rw [E1.out]; exact hr) ht).congr (fun i hi => ?_)
    by_cases e : i = k
    ·subst e
     simp [mkRows, HY.out]
    ·by_cases e2 : i < k
     ·simp [e, e2, show i < k + 1 by omega]
     ·simp [e, e2, show ¬ i < k + 1 by omega]
   have HG2 : Hid (Turns F w w2) := HG.out.trans (ht.mono HK2.out)
   clear hr ht
   go_wp2
   go_roundw
   case rel => exact ⟨k + 1, by omega, by go_num, by rw [show y + 4 * (L k : Int) = z + 4 * (sumL L (k + 1) : Int) from by have := HY.out; simp only [sumL]; omega], HR2.out, HG2.out⟩
   case measure => simp [intOf]; omega
  ·go_wp2
   go_ret
   obtain rfl : k = n := by omega
   exact ⟨rfl, HR.out.congr (fun i hi => by simp [hi]), HG.out⟩
set_option maxHeartbeats 4000000 in
theorem heldHF {F : Nat → Prop} {x : Value} {n : Nat} {U : Nat → Value} {L : Nat → Nat} {w : World} (z : Int) (hn : n ≤ 1048577) (hL : sumL L n ≤ 1048577) (hz0 : 0 ≤ z) (hz1 : z ≤ 1000000000) (h : RowsF F w x n U L (mkRows z L)) :
  Calls Tryz.prog 90 #[x, .int .i64 z] w fun e w' => e = .returned (.int .i64 (z + 4 * (sumL L n : Int))) ∧ w' = w := by
 obtain ⟨a, cap, rfl, ha⟩ := h.slice
 have HR := hidMMarkH h
 have HL : Hid (sumL L n ≤ 1048577) := hL
 clear h hL
 go_enter Tryz.func90, Tryz.ntmps90
 go_wp2
 go_loop [5, 1] (fun i y => ∃ k : Nat, k ≤ n ∧ i = .int .i64 k ∧ y = .int .i64 (z + 4 * (sumL L k : Int))) (fun i _ => n - (intOf i).toNat)
 case atStart => exact ⟨0, Nat.zero_le _, rfl, by simp [sumL]⟩
 case round =>
  obtain ⟨k, hk, rfl, rfl⟩ := hrel
  by_cases hlt : k < n
  ·obtain ⟨g, rfl⟩ := ha.resolve_left (by omega)
   have hc := HR.out.cell hlt
   obtain ⟨a1, c1, e1⟩ := HR.out.len hlt
   obtain ⟨K, hK1, _, _⟩ := HR.out.step hlt
   have HK1 := hidMMarkH hK1
   have hs : sumL L k + L k ≤ 1048577 := Nat.le_trans (sumL_mono L (show k + 1 ≤ n from hlt)) HL.out
   have E1 := hidMMarkH e1
   rw [e1] at hc
   clear hK1 ha e1
   obtain ⟨y, hy⟩ : ∃ y : Int, y = z + 4 * (sumL L k : Int) := ⟨_, rfl⟩
   have hy0 : 0 ≤ y := by omega
   have hy1 : y ≤ 1073741824 := by omega
   have HY := hidMMarkH hy
   rw [← hy]
   clear hy
   have hy2 : ¬ (y + 4 * (L k : Int) < 0) := by omega
   go_wp2_with fail
   refine (heldOF (F := K) (n := L k) y (by omega) hy0 hy1 (by have := HK1.out; rw [E1.out] at this; unfold mkRows at this; rw [← HY.out] at this; exact this)).mono ?_
   rintro e w' ⟨rfl, hw⟩
   have hw' := hw.symm
   clear hw
   subst hw'
   go_wp2
   go_round
   case rel => exact ⟨k + 1, by omega, by go_num, by rw [show y + 4 * (L k : Int) = z + 4 * (sumL L (k + 1) : Int) from by have := HY.out; simp only [sumL]; omega]⟩
   case measure => simp [intOf]; omega
  ·go_wp2
   go_ret
   obtain rfl : k = n := by omega
   exact ⟨rfl, rfl⟩
end Go.Proofs.YthfhibnnkpbeiaaGreat

