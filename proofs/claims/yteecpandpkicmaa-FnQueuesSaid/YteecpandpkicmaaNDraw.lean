/- What is drawn out of a cursor: numbers below one, one of a list; a new cursor. -/
import Derived.Test.YteecpandpkicmaaNCur
namespace Go.Proofs.Yteecpandpkicmaa
open Go.RowKit

theorem i64_mask30 (n : Int) : bits .and .i64 n 1073741823 = n % 1073741824 := by
  have h127 : (BitVec.ofInt 64 1073741823).toNat = 2 ^ 30 - 1 := by decide
  have key : (BitVec.ofInt 64 n &&& BitVec.ofInt 64 1073741823).toNat = (n % ((2 ^ 64 : Nat) : Int)).toNat % 2 ^ 30 := by
    rw [BitVec.toNat_and, BitVec.toNat_ofInt, h127, Nat.and_two_pow_sub_one_eq_mod]
  show IntKind.i64.wrap ((BitVec.ofInt 64 n &&& BitVec.ofInt 64 1073741823).toNat : Nat) = n % 1073741824
  rw [key, IntKind.wrap_i64]
  omega
theorem tmod_in {x m : Int} (h : 0 ≤ x) (hm : 0 < m) : 0 ≤ Int.tmod x m ∧ Int.tmod x m < m := by
  rw [Int.tmod_eq_emod_of_nonneg h]
  exact ⟨Int.emod_nonneg _ (by omega), Int.emod_lt_of_pos _ hm⟩
theorem emod_in {x m : Int} (hm : 0 < m) : 0 ≤ x % m ∧ x % m < m := ⟨Int.emod_nonneg _ (by omega), Int.emod_lt_of_pos _ hm⟩

set_option maxHeartbeats 2000000 in
theorem below_any (c : Nat) (n : Int) (w : World) (H : Cur w c) :
    Calls Try.prog 47 #[.pointer (some ⟨c, 0, none⟩), .int .i64 n] w fun e w' => ∃ x : Int, e = .returned (.int .i64 x) ∧ 0 ≤ x ∧ (0 < n → x < n) ∧ Cur w' c ∧ Turns (fun k => k = c) w w' := by
  have HC : Hid (Cur w c) := H
  clear H
  by_cases h0 : n ≤ 0
  · go_enter Try.func47, Try.ntmps47
    go_wp2_with fail
    go_ret
    exact ⟨0, rfl, by omega, by omega, HC.out, Turns.refl _ _⟩
  · have h0' : ¬ n ≤ 0 := h0
    have hn0 : ¬ n = 0 := by omega
    by_cases h1 : n ≤ 256
    · go_enter Try.func47, Try.ntmps47
      go_wp2_with (go_at_call 64; refine (byte_any c _ HC.out).mono ?_; rintro e w1 ⟨x, rfl, hx0, hx1, hC1, hT1⟩)
      go_ret
      exact ⟨_, rfl, (by first | exact (emod_in (by omega)).1 | exact (tmod_in hx0 (by omega)).1), fun hn => (by first | exact (emod_in (by omega)).2 | exact (tmod_in hx0 (by omega)).2), hC1, hT1⟩
    · go_enter Try.func47, Try.ntmps47
      go_wp2_with fail
      refine (byte_any c _ HC.out).mono ?_
      rintro e w1 ⟨x, rfl, hx0, hx1, hC1, hT1⟩
      have HC1 : Hid (Cur w1 c) := hC1
      have HT1 : Hid (Turns (fun k => k = c) w w1) := hT1
      clear hC1 hT1
      go_wp2_with fail
      refine (byte_any c _ HC1.out).mono ?_
      rintro e w2 ⟨y, rfl, hy0, hy1, hC2, hT2⟩
      have HC2 : Hid (Cur w2 c) := hC2
      have HT2 : Hid (Turns (fun k => k = c) w w2) := HT1.out.trans hT2
      clear hC2 hT2
      go_wp2_with fail
      refine (byte_any c _ HC2.out).mono ?_
      rintro e w3 ⟨z, rfl, hz0, hz1, hC3, hT3⟩
      have HC3 : Hid (Cur w3 c) := hC3
      have HT3 : Hid (Turns (fun k => k = c) w w3) := HT2.out.trans hT3
      clear hC3 hT3
      go_wp2_with fail
      refine (byte_any c _ HC3.out).mono ?_
      rintro e w4 ⟨t, rfl, ht0, ht1, hC4, hT4⟩
      have HC4 : Hid (Cur w4 c) := hC4
      have HT4 : Hid (Turns (fun k => k = c) w w4) := HT3.out.trans hT4
      clear hC4 hT4
      go_wp2
      go_ret
      exact ⟨_, rfl, (by first | exact (emod_in (by omega)).1 | exact (tmod_in (by omega) (by omega)).1), fun hn => (by first | exact (emod_in (by omega)).2 | exact (tmod_in (by omega) (by omega)).2), HC4.out, HT4.out⟩

/- A list of numbers at the head of block g. -/
def ListAt (w : World) (g m : Nat) (P : Int → Prop) : Prop := g < w.heap.size ∧ ∀ j, j < m → ∃ y : Int, P y ∧ w.cell? ⟨g, j, none⟩ = some (.int .i64 y)
theorem ListAt.turns {w w' : World} {S : Nat → Prop} {g m : Nat} {P : Int → Prop} (h : ListAt w g m P) (ht : Turns S w w') (hS : ¬ S g) : ListAt w' g m P :=
  ⟨Nat.lt_of_lt_of_le h.1 ht.size, fun j hj => by obtain ⟨y, hy, hc⟩ := h.2 j hj; exact ⟨y, hy, (ht.cell h.1 hS).trans hc⟩⟩

set_option maxHeartbeats 2000000 in
theorem pick_any (c g m : Nat) (P : Int → Prop) (w : World) (hm : 0 < m) (hm' : m ≤ 1000) (hg : ¬ g = c) (H : Cur w c) (L : ListAt w g m P) :
    Calls Try.prog 50 #[.pointer (some ⟨c, 0, none⟩), .slice (some ⟨g, 0, none⟩) m m] w fun e w' => ∃ y : Int, e = .returned (.int .i64 y) ∧ P y ∧ Cur w' c ∧ Turns (fun k => k = c) w w' := by
  have HC : Hid (Cur w c) := H
  have HL : Hid (ListAt w g m P) := L
  clear H L
  go_enter Try.func50, Try.ntmps50
  go_wp2_with fail
  refine (below_any c _ _ HC.out).mono ?_
  rintro e w1 ⟨x, rfl, hx0, hx1, hC1, hT1⟩
  have hx2 := hx1 (by omega)
  obtain ⟨k, rfl⟩ : ∃ k : Nat, x = (k : Int) := ⟨x.toNat, by omega⟩
  have hk : k < m := by omega
  have hidx : (0 : Int) ≤ (k : Int) ∧ (k : Int) < (m : Int) := by omega
  obtain ⟨y, hy, hc⟩ := (HL.out.turns hT1 hg).2 k hk
  have HY : Hid (P y) := hy
  have HC1 : Hid (Cur w1 c) := hC1
  have HT1 : Hid (Turns (fun k => k = c) w w1) := hT1
  clear hx1 hx2 hC1 hT1 hy
  go_wp2
  go_ret
  exact ⟨y, rfl, HY.out, HC1.out, HT1.out⟩

set_option maxHeartbeats 2000000 in
theorem new_any (a : Option Addr) (n cap : Nat) (w : World) (hn : n ≤ 281474976710656) (hC : CodeIn w w.heap.size a n) :
    Calls Try.prog 25 #[.slice a n cap] w fun e w' => ∃ c, e = .returned (.pointer (some ⟨c, 0, none⟩)) ∧ w.heap.size ≤ c ∧ Cur w' c ∧ Below w.heap.size w w' := by
  have HC : Hid (CodeIn w w.heap.size a n) := hC
  clear hC
  have hand : ∀ m : Int, bits .and .i64 m 1073741823 = m % 1073741824 := i64_mask30
  go_enter Try.func25, Try.ntmps25
  go_wp2
  go_loop [3, 4] (fun h i => ∃ (k : Nat) (x : Int), k ≤ n ∧ i = .int .i64 k ∧ h = .int .i64 x) (fun _ i => n - (intOf i).toNat)
  case atStart => exact ⟨0, _, Nat.zero_le _, rfl, rfl⟩
  case round =>
    obtain ⟨k, x, hk, rfl, rfl⟩ := hrel
    by_cases hlt : k < n
    · by_cases h4 : k < 4000
      · obtain ⟨b, off, rfl, hb, hz⟩ := HC.out.resolve_left (by omega)
        obtain ⟨z, hz1, hz2⟩ := hz k hlt
        have a1 : (k : Int) < (n : Int) := by omega
        have a2 : (k : Int) < 4000 := by omega
        have hidx : (0 : Int) ≤ (k : Int) ∧ (k : Int) < (n : Int) := by omega
        clear hz
        go_wp2
        go_round
        case rel => exact ⟨k + 1, _, by omega, by go_num, rfl⟩
        case measure => simp [intOf]; omega
      · have a1 : (k : Int) < (n : Int) := by omega
        have a2 : ¬ (k : Int) < 4000 := by omega
        go_wp2
        go_ret
        refine ⟨_, rfl, Nat.le_refl _, ⟨a, n, cap, 0, x, ?_⟩, (Below.refl _ w).alloc (Nat.le_refl _) _⟩
        exact ⟨by simp, by simp, by simp, fun o => by simp, by simp, Nat.zero_le _, hn, HC.out.below ((Below.refl _ w).alloc (Nat.le_refl _) _) (Nat.le_refl _)⟩
    · have a1 : ¬ (k : Int) < (n : Int) := by omega
      go_wp2
      go_ret
      refine ⟨_, rfl, Nat.le_refl _, ⟨a, n, cap, 0, x, ?_⟩, (Below.refl _ w).alloc (Nat.le_refl _) _⟩
      exact ⟨by simp, by simp, by simp, fun o => by simp, by simp, Nat.zero_le _, hn, HC.out.below ((Below.refl _ w).alloc (Nat.le_refl _) _) (Nat.le_refl _)⟩
end Go.Proofs.Yteecpandpkicmaa
