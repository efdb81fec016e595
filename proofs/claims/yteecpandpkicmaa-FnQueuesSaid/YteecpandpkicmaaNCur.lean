/- The cursor over the bytes of a draw. -/
import Derived.Test.YteecpandpkicmaaNInts
import Derived.BigRegion
namespace Go.Proofs.Yteecpandpkicmaa
open Go.RowKit

/- n bytes that lie below block B. -/
def CodeIn (w : World) (B : Nat) (a : Option Addr) (n : Nat) : Prop := n = 0 ∨ ∃ b off, a = some ⟨b, off, none⟩ ∧ b < B ∧ ∀ i, i < n → ∃ z : Nat, z < 256 ∧ w.cell? ⟨b, off + i, none⟩ = some (.int .u8 (z : Int))
theorem CodeIn.below {w w' : World} {B B' : Nat} {a : Option Addr} {n : Nat} (h : CodeIn w B a n) (hb : Below B' w w') (hB : B ≤ B') : CodeIn w' B a n := by
  rcases h with h | ⟨b, off, h1, h2, h3⟩
  · exact .inl h
  · exact .inr ⟨b, off, h1, h2, fun i hi => by
      obtain ⟨z, hz, hc⟩ := h3 i hi
      exact ⟨z, hz, (hb.cell (p := ⟨b, off + i, none⟩) (by show b < B'; omega)).trans hc⟩⟩
theorem CodeIn.mono {w : World} {B B' : Nat} {a : Option Addr} {n : Nat} (h : CodeIn w B a n) (hB : B ≤ B') : CodeIn w B' a n := by
  rcases h with h | ⟨b, off, h1, h2, h3⟩
  · exact .inl h
  · exact .inr ⟨b, off, h1, by omega, h3⟩
/- A cursor at block c. -/
structure CurAt (w : World) (c : Nat) (a : Option Addr) (n cap i : Nat) (h : Int) : Prop where
  c0 : w.cell? ⟨c, 0, none⟩ = some (.slice a n cap)
  c1 : w.cell? ⟨c, 1, none⟩ = some (.int .i64 (i : Int))
  c2 : w.cell? ⟨c, 2, none⟩ = some (.int .i64 h)
  fz : ∀ o, w.frozen? ⟨c, o, none⟩ = false
  lt : c < w.heap.size
  le : i ≤ n
  len : n ≤ 281474976710656
  code : CodeIn w c a n
def Cur (w : World) (c : Nat) : Prop := ∃ a n cap i h, CurAt w c a n cap i h
theorem CurAt.below {w w' : World} {B c : Nat} {a : Option Addr} {n cap i : Nat} {h : Int} (H : CurAt w c a n cap i h) (hb : Below B w w') (hB : c < B) : CurAt w' c a n cap i h :=
  ⟨(hb.cell hB).trans H.c0, (hb.cell hB).trans H.c1, (hb.cell hB).trans H.c2, fun o => (hb.frozen (p := ⟨c, o, none⟩) hB).trans (H.fz o), Nat.lt_of_lt_of_le H.lt hb.size, H.le, H.len, H.code.below hb (by omega)⟩
theorem Cur.below {w w' : World} {B c : Nat} (H : Cur w c) (hb : Below B w w') (hB : c < B) : Cur w' c := by
  obtain ⟨a, n, cap, i, h, H⟩ := H
  exact ⟨a, n, cap, i, h, H.below hb hB⟩
theorem Cur.lt {w : World} {c : Nat} (H : Cur w c) : c < w.heap.size := by
  obtain ⟨a, n, cap, i, h, H⟩ := H
  exact H.lt
theorem i64_and255 (n : Int) : bits .and .i64 n 255 = n % 256 := by
  have h127 : (BitVec.ofInt 64 255).toNat = 2 ^ 8 - 1 := by decide
  have key : (BitVec.ofInt 64 n &&& BitVec.ofInt 64 255).toNat = (n % ((2 ^ 64 : Nat) : Int)).toNat % 2 ^ 8 := by
    rw [BitVec.toNat_and, BitVec.toNat_ofInt, h127, Nat.and_two_pow_sub_one_eq_mod]
  show IntKind.i64.wrap ((BitVec.ofInt 64 n &&& BitVec.ofInt 64 255).toNat : Nat) = n % 256
  rw [key, IntKind.wrap_i64]
  omega
theorem CurAt.drew {w : World} {c : Nat} {a : Option Addr} {n cap i : Nat} {h : Int} (H : CurAt w c a n cap i h) : CurAt w.drew c a n cap i h :=
  H.below (B := w.heap.size) (Below.refl _ w).drew H.lt
theorem CurAt.hash {w : World} {c : Nat} {a : Option Addr} {n cap i : Nat} {h : Int} (H : CurAt w c a n cap i h) (h' : Int) : CurAt (w.setCell ⟨c, 2, none⟩ (.int .i64 h')) c a n cap i h' := by
  have hn : ∀ i j : Nat, i ≠ j → (⟨c, i, none⟩ : Addr) ≠ ⟨c, j, none⟩ := fun i j hij e => hij (by injection e)
  have hb : Below c w (w.setCell ⟨c, 2, none⟩ (.int .i64 h')) := (Below.refl c w).setCell (by simp) _
  exact ⟨(World.cell?_setCell_other _ _ _ _ (hn _ _ (by omega))).trans H.c0, (World.cell?_setCell_other _ _ _ _ (hn _ _ (by omega))).trans H.c1, World.cell?_setCell_same _ _ _ H.c2,
    fun o => by simp [H.fz], by simpa [World.setCell] using H.lt, H.le, H.len, H.code.below hb (Nat.le_refl _)⟩
theorem CurAt.next {w : World} {c : Nat} {a : Option Addr} {n cap i : Nat} {h : Int} (H : CurAt w c a n cap i h) (j : Nat) (hj : j ≤ n) : CurAt (w.setCell ⟨c, 1, none⟩ (.int .i64 (j : Int))) c a n cap j h := by
  have hn : ∀ i j : Nat, i ≠ j → (⟨c, i, none⟩ : Addr) ≠ ⟨c, j, none⟩ := fun i j hij e => hij (by injection e)
  have hb : Below c w (w.setCell ⟨c, 1, none⟩ (.int .i64 (j : Int))) := (Below.refl c w).setCell (by simp) _
  exact ⟨(World.cell?_setCell_other _ _ _ _ (hn _ _ (by omega))).trans H.c0, World.cell?_setCell_same _ _ _ H.c1, (World.cell?_setCell_other _ _ _ _ (hn _ _ (by omega))).trans H.c2,
    fun o => by simp [H.fz], by simpa [World.setCell] using H.lt, hj, H.len, H.code.below hb (Nat.le_refl _)⟩

set_option maxHeartbeats 2000000 in
theorem byte_any (c : Nat) (w : World) (H : Cur w c) :
    Calls Try.prog 64 #[.pointer (some ⟨c, 0, none⟩)] w fun e w' => ∃ x : Int, e = .returned (.int .i64 x) ∧ 0 ≤ x ∧ x ≤ 255 ∧ Cur w' c ∧ Turns (fun k => k = c) w w' := by
  obtain ⟨a, n, cap, i, h, H⟩ := H
  have c0 := H.c0
  have c1 := H.c1
  have c2 := H.c2
  have hf := H.fz
  have hlen := H.len
  have hle := H.le
  have hand : ∀ m : Int, bits .and .i64 m 255 = m % 256 := i64_and255
  go_enter Try.func64, Try.ntmps64
  go_wp2_with fail
  go_region
  generalize wrap64 (wrap64 (h * 6364136223846793005) + 1442695040888963407) = h1
  generalize hx : bits BinOp.xor IntKind.i64 (h1 / 8589934592) (h1 / 35184372088832) % 256 = x0
  have hx0 : 0 ≤ x0 := by omega
  have hx1 : x0 ≤ 255 := by omega
  have H1 := (H.hash h1).drew
  have T1 : Turns (fun k => k = c) w (w.setCell ⟨c, 2, none⟩ (.int .i64 h1)).drew := ((Turns.refl (fun k => k = c) w).setCell (p := ⟨c, 2, none⟩) rfl _).drew
  generalize (w.setCell ⟨c, 2, none⟩ (.int .i64 h1)).drew = w1 at H1 T1 ⊢
  have HT1 : Hid (Turns (fun k => k = c) w w1) := T1
  clear c0 c1 c2 hf hx T1 H
  have d0 := H1.c0
  have d1 := H1.c1
  have d2 := H1.c2
  have df := H1.fz
  have HC1 : Hid (CurAt w1 c a n cap i h1) := H1
  by_cases hi : i < n
  · obtain ⟨b, off, rfl, hb, hz⟩ := H1.code.resolve_left (by omega)
    obtain ⟨z, hz1, hz2⟩ := hz i hi
    have hbc : ¬ b = c := by omega
    have hlt : (i : Int) < (n : Int) := by omega
    have hidx : (0 : Int) ≤ (i : Int) ∧ (i : Int) < (n : Int) := by omega
    have q0 : IntKind.i64.wrap (x0 + (z : Int)) = x0 + (z : Int) := by rw [IntKind.wrap_i64]; omega
    clear hz H1
    go_wp2_with fail
    go_region
    go_wp2_with fail
    go_region
    go_wp2
    go_ret
    refine ⟨_, rfl, by omega, by omega, ⟨_, _, _, _, _, (HC1.out.drew.drew.next (i + 1) (by omega))⟩, ?_⟩
    exact (HT1.out.drew.drew).setCell (p := ⟨c, 1, none⟩) rfl _
  · have hlt : ¬ (i : Int) < (n : Int) := by omega
    clear H1
    go_wp2_with fail
    go_region
    go_wp2
    go_ret
    exact ⟨_, rfl, hx0, hx1, ⟨_, _, _, _, _, HC1.out.drew⟩, HT1.out.drew⟩
end Go.Proofs.Yteecpandpkicmaa
