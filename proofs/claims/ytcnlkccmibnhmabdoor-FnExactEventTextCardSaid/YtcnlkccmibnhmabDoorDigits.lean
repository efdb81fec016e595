/- The specification's digits of a number. -/
import Derived.Test.YtcnlkccmibnhmabDoorBytes
import Derived.Lib.ItoaNum
namespace Go.Proofs.YtcnlkccmibnhmabDoor
open Go.RowKit
theorem info5 : (Tryd.prog.info? 5).map (fun i => (i.zero, i.size, i.bytes)) = some (some (.int .u8 0), 1, 1) := by kernel_rfl
theorem u8_digit (m : Nat) (h : m < 10) : ((UInt8.ofNat (48 + m)).toNat : Int) = 48 + (m : Int) := by
  rw [show (UInt8.ofNat (48 + m)).toNat = 48 + m from by simp; omega]
  omega
theorem decDigits_ge (n : Nat) (h : ¬ n < 10) : Lib.decDigits n = Lib.decDigits (n / 10) ++ [UInt8.ofNat (48 + n % 10)] := by rw [Lib.decDigits, dif_neg h]
theorem decDigits_len (n : Nat) : (Lib.decDigits n).length ≤ n + 1 := by
  induction n using Nat.strongRecOn with
  | _ n ih =>
    by_cases h : n < 10
    · rw [Lib.decDigits_one h]; simp
    · rw [decDigits_ge n h]
      have := ih (n / 10) (by omega)
      simp; omega
/- The slice v owns the bytes l, in a block from B on. -/
abbrev RowB (B : Nat) (w : World) (v : Value) (l : List UInt8) : Prop := w.ownsRow B 5 1 v l.length (Lib.byteCells l)
theorem row_one (w : World) (z : Int) (b : UInt8) (hz : z = (b.toNat : Int)) : RowB w.heap.size (w.alloc (.cells #[.int .u8 z] 5)) (.slice (some ⟨w.heap.size, 0, none⟩) 1 1) [b] :=
  ⟨rfl, .inr ⟨w.heap.size, 1, #[.int .u8 z], rfl, Nat.le_refl _, (MapKept.heap_alloc w _).1, Nat.le_refl _, by unfold maxLen; omega, rfl, by subst hz; rfl⟩⟩
theorem row_ge {B : Nat} {w : World} {v : Value} {n : Nat} {xs : List Value} (h : w.ownsRow B 5 1 v n xs) {r : Nat} (e : v.ownBlock = some r) : B ≤ r := by
  obtain ⟨_, ⟨rfl, _⟩ | ⟨g, cap, cur, rfl, hg, _⟩⟩ := h
  · cases e
  · cases e; exact hg
theorem row_snoc {B : Nat} {w : World} {v : Value} {l l' : List UInt8} {n : Nat} {xs : List Value} (h : w.ownsRow B 5 1 v n xs) (hn : n = (l ++ l').length) (hx : xs = Lib.byteCells l ++ Lib.byteCells l') : RowB B w v (l ++ l') := by
  subst hn hx
  rw [← Lib.byteCells_append] at h
  exact h
set_option maxHeartbeats 1000000 in
theorem digits_any : ∀ (n : Nat) (w : World), n ≤ 1000000000000 →
    Calls Tryd.prog 16 #[.int .i64 (n : Int)] w fun e w' => ∃ v, e = .returned v ∧ RowB w.heap.size w' v (Lib.decDigits n) ∧ Below w.heap.size w w' := by
  intro n
  induction n using Nat.strongRecOn with
  | _ n ih =>
    intro w hn
    obtain ⟨i0, hi, hz0, hz1, hz2⟩ := info_parts info5
    by_cases h : n < 10
    · have h1 : (n : Int) < 10 := by omega
      go_enter Tryd.func16, Tryd.ntmps16
      go_wp2
      go_ret
      rw [Lib.decDigits_one h]
      exact ⟨_, rfl, row_one w _ _ (u8_digit n h).symm, (Below.refl _ w).alloc (Nat.le_refl _) _⟩
    · have h1 : ¬ (n : Int) < 10 := by omega
      have HC : Hid (Calls Tryd.prog 16 #[.int .i64 ((n : Int) / 10)] w fun e w' => ∃ v, e = .returned v ∧ RowB w.heap.size w' v (Lib.decDigits (n / 10)) ∧ Below w.heap.size w w') := by
        rw [show ((n : Int) / 10) = ((n / 10 : Nat) : Int) from by omega]
        exact ih (n / 10) (by omega) w (by omega)
      have hlen := decDigits_len (n / 10)
      go_enter Tryd.func16, Tryd.ntmps16
      go_wp2_with fail
      refine HC.out.mono ?_
      rintro r w1 ⟨v, rfl, hrow, hb⟩
      have HR : Hid (RowB w.heap.size w1 v (Lib.decDigits (n / 10))) := hrow
      have HB : Hid (Below w.heap.size w w1) := hb
      have hs : w.heap.size ≤ w1.heap.size := hb.size
      have hm0 : 0 ≤ (n : Int) % 10 := by omega
      have hm1 : (n : Int) % 10 < 10 := by omega
      have HM : Hid ((n : Int) % 10 = ((n % 10 : Nat) : Int)) := by show (n : Int) % 10 = ((n % 10 : Nat) : Int); omega
      have hL : (Lib.decDigits (n / 10)).length ≤ 1000000000000 := by omega
      clear hrow hb HC ih
      go_wp2_with (at_builtin; refine wpList_append_own _ rfl _ _ 24 rfl w.heap.size 5 i0 (.int .u8 0) 1 1 Tryd.underlying24 hi hz0 hz1 hz2 rfl (by decide) v _ _ rfl (HR.out.alloc _) ⟨w1.heap.size, 0, none⟩ 1 1 [.int .u8 (48 + (n : Int) % 10)] rfl rfl (fun j u hu => by (match j, hu with | 0, hu => simp at hu; subst hu; simp [Addr.add] | (j + 1), hu => simp at hu)) (fun u hu => by simp at hu; subst hu; rfl) (by unfold maxLen; omega) (by omega) (by simp; omega) ?_; intro v' w2 hown hgrow hnil)
      go_ret
      refine ⟨v', rfl, ?_, ((HB.out.alloc hs _).grown hgrow (by simp; omega) (fun k e => row_ge HR.out e))⟩
      rw [decDigits_ge n h]
      exact row_snoc hown (by simp) (by simp [Lib.byteCells]; rw [HM.out]; omega)
end Go.Proofs.YtcnlkccmibnhmabDoor
