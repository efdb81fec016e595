/- KKt, VBase, KNa -/
import Derived.Test.YthfhibnnkpbeiaaGreatExactKernelNewLKKr
import Derived.Test.YthfhibnnkpbeiaaGreatExactKernelNewG28
import Derived.Test.YthfhibnnkpbeiaaGreatExactKernelNewG08
import Derived.Test.YthfhibnnkpbeiaaGreatRows
import Derived.Test.YthfhibnnkpbeiaaGreatExactKernelNewG01
import Derived.WalkKit
import Derived.WalkSpells
import Derived.WalkLawsBesides
import Derived.Outline
import Derived.Below
import Derived.BigRegion
import Derived.Test.YthfhibnnkpbeiaaGreatExactKernelNewLKNw
/- A kernel: a copy of its own. -/
namespace Go.Proofs.YthfhibnnkpbeiaaGreat
open Go.RowKit
def KernF (F : Nat → Prop) (w : World) (y : Value) (k : Kn) : Prop := ∃ (A0 A6 A7 A8 A12 A13 : Nat → Prop) (vi vh vs u6 u7 u8 u12 u13 : Value), y = .agg #[.int .i64 k.m.n, .int .i64 k.m.s, vi, vh, vs, .int .i64 k.m.z, u6, u7, u8, .int .i64 k.t, .int .i64 k.q, .bool k.f, u12, u13] ∧ MdF A0 w (.agg #[.int .i64 k.m.n, .int .i64 k.m.s, vi, vh, vs, .int .i64 k.m.z]) k.m ∧ OwnD w A6 u6 (intsD k.d) ∧ OwnD w A7 u7 (partsD k.p) ∧ OwnD w A8 u8 (mailsD k.b) ∧ OwnD w A12 u12 (evsD k.s) ∧ OwnD w A13 u13 (emsD k.x) ∧ (∀ j, A0 j → F j ∧ ¬ A6 j ∧ ¬ A7 j ∧ ¬ A8 j ∧ ¬ A12 j ∧ ¬ A13 j) ∧ (∀ j, A6 j → F j ∧ ¬ A7 j ∧ ¬ A8 j ∧ ¬ A12 j ∧ ¬ A13 j) ∧ (∀ j, A7 j → F j ∧ ¬ A8 j ∧ ¬ A12 j ∧ ¬ A13 j) ∧ (∀ j, A8 j → F j ∧ ¬ A12 j ∧ ¬ A13 j) ∧ (∀ j, A12 j → F j ∧ ¬ A13 j) ∧ (∀ j, A13 j → F j)
theorem KernF.is {F : Nat → Prop} {w : World} {y : Value} {k : Kn} (h : KernF F w y k) : IsKern w y k := by
 obtain ⟨_, _, _, _, _, _, vi, vh, vs, u6, u7, u8, u12, u13, rfl, hm, h6, h7, h8, h12, h13, _⟩ := h
 exact ⟨vi, vh, vs, u6, u7, u8, u12, u13, rfl, hm.isM, h6.isD, h7.isD, h8.isD, h12.isD, h13.isD⟩
theorem KernF.turns {F S : Nat → Prop} {w w' : World} {y : Value} {k : Kn} (h : KernF F w y k) (ht : Turns S w w') (hS : ∀ j, F j → ¬ S j) : KernF F w' y k := by
 obtain ⟨A0, A6, A7, A8, A12, A13, vi, vh, vs, u6, u7, u8, u12, u13, rfl, hm, h6, h7, h8, h12, h13, d0, d6, d7, d8, d12, d13⟩ := h
 exact ⟨A0, A6, A7, A8, A12, A13, vi, vh, vs, u6, u7, u8, u12, u13, rfl, hm.turns ht (fun j hj => hS j (d0 j hj).1), h6.turns ht (fun j hj => hS j (d6 j hj).1), h7.turns ht (fun j hj => hS j (d7 j hj).1), h8.turns ht (fun j hj => hS j (d8 j hj).1), h12.turns ht (fun j hj => hS j (d12 j hj).1), h13.turns ht (fun j hj => hS j (d13 j hj)), d0, d6, d7, d8, d12, d13⟩
end Go.Proofs.YthfhibnnkpbeiaaGreat

/- Vectors: plain words, and the small functions of both sides. -/
namespace Go.Proofs.YthfhibnnkpbeiaaGreat
open Go.RowKit
def numOk (z : Int) : Bool := decide (-1 ≤ z) && decide (z ≤ 1)
def vok (l : List Int) : Bool := l.all numOk && decide (l.length = 4)
theorem numOk_iff {z : Int} : numOk z = true ↔ -1 ≤ z ∧ z ≤ 1 := by simp [numOk]
theorem vok_four {l : List Int} (h : vok l = true) : ∃ a b c d : Int, l = [a, b, c, d] ∧ (-1 ≤ a ∧ a ≤ 1) ∧ (-1 ≤ b ∧ b ≤ 1) ∧ (-1 ≤ c ∧ c ≤ 1) ∧ (-1 ≤ d ∧ d ≤ 1) := by
 simp only [vok, Bool.and_eq_true, decide_eq_true_eq] at h
 obtain ⟨h, hl⟩ := h
 match l, hl with
 | [a, b, c, d], _ =>
  simp only [List.all_cons, List.all_nil, Bool.and_eq_true, numOk_iff] at h
  exact ⟨a, b, c, d, rfl, h.1, h.2.1, h.2.2.1, h.2.2.2.1⟩
end Go.Proofs.YthfhibnnkpbeiaaGreat

/- What KernelNew answers. -/
namespace Go.Proofs.YthfhibnnkpbeiaaGreat
open Go.RowKit
def kn0 : Kn := ⟨⟨0, 0, [], [], [], 0⟩, [], [], [], 0, 0, false, [], []⟩
def kOk (m : Md) (d : List Int) : Bool := m.ok && vok d
def kernA (m : Md) (d : List Int) : Kn := if kOk m d = true then newK m d else kn0
theorem kern_no {m : Md} {d : List Int} (h : kOk m d = false) : kernA m d = kn0 := by unfold kernA; rw [if_neg (by rw [h]; simp)]
theorem kern_yes {m : Md} {d : List Int} (h : kOk m d = true) : kernA m d = newK m d := by unfold kernA; rw [if_pos h]
theorem md0_own (w : World) : MdF (fun _ => False) w (.agg #[.int .i64 0, .int .i64 0, .slice none 0 0, .slice none 0 0, .slice none 0 0, .int .i64 0]) ⟨0, 0, [], [], [], 0⟩ :=
 ⟨fun _ => False, fun _ => False, fun _ => False, _, _, _, rfl, ⟨rfl, _, _, rfl, Nat.le_refl _, Nat.zero_le _, .inl rfl⟩, ⟨fun _ => .int .i64 0, fun _ => False, fun _ _ => False, ⟨rfl, _, _, rfl, Nat.le_refl _, Nat.zero_le _, .inl rfl⟩, fun _ h => h, fun i hi => by simp at hi, fun i j hi => by simp at hi⟩, ⟨rfl, _, _, rfl, Nat.le_refl _, Nat.zero_le _, .inl rfl⟩, fun _ h => h.elim, fun _ h => h.elim, fun _ h => h.elim⟩
theorem kn0_own (F : Nat → Prop) (w : World) : KernF F w (.agg #[.int .i64 0, .int .i64 0, .slice none 0 0, .slice none 0 0, .slice none 0 0, .int .i64 0, .slice none 0 0, .slice none 0 0, .slice none 0 0, .int .i64 0, .int .i64 0, .bool false, .slice none 0 0, .slice none 0 0]) kn0 :=
 ⟨fun _ => False, fun _ => False, fun _ => False, fun _ => False, fun _ => False, fun _ => False, _, _, _, _, _, _, _, _, rfl, md0_own w, .nil _ _ _ _ _ (Nat.zero_le _), .nil _ _ _ _ _ (Nat.zero_le _), .nil _ _ _ _ _ (Nat.zero_le _), .nil _ _ _ _ _ (Nat.zero_le _), .nil _ _ _ _ _ (Nat.zero_le _), fun _ h => h.elim, fun _ h => h.elim, fun _ h => h.elim, fun _ h => h.elim, fun _ h => h.elim, fun _ h => h.elim⟩
end Go.Proofs.YthfhibnnkpbeiaaGreat

