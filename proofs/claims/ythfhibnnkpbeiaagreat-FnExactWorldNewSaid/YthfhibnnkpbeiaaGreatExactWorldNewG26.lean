/- KNw, VBase -/
import Derived.Test.YthfhibnnkpbeiaaGreatExactWorldNewG25
import Derived.Test.YthfhibnnkpbeiaaGreatExactWorldNewG06
import Derived.Test.YthfhibnnkpbeiaaGreatExactWorldNewG13
import Derived.Test.YthfhibnnkpbeiaaGreatRows
import Derived.Test.YthfhibnnkpbeiaaGreatExactWorldNewG01
import Derived.WalkKit
import Derived.WalkSpells
import Derived.WalkLawsBesides
import Derived.Outline
import Derived.Below
import Derived.BigRegion
/- The specification's new kernel. -/
namespace Go.Proofs.YthfhibnnkpbeiaaGreat
open Go.RowKit
def put14 (w : World) (b : Nat) (x0 : Value) (x1 : Value) (x2 : Value) (x3 : Value) (x4 : Value) (x5 : Value) (x6 : Value) (x7 : Value) (x8 : Value) (x9 : Value) (x10 : Value) (x11 : Value) (x12 : Value) (x13 : Value) : World := ((((((((((((((w.setCell ⟨b, 0, none⟩ x0).setCell ⟨b, 1, none⟩ x1).setCell ⟨b, 2, none⟩ x2).setCell ⟨b, 3, none⟩ x3).setCell ⟨b, 4, none⟩ x4).setCell ⟨b, 5, none⟩ x5).setCell ⟨b, 6, none⟩ x6).setCell ⟨b, 7, none⟩ x7).setCell ⟨b, 8, none⟩ x8).setCell ⟨b, 9, none⟩ x9).setCell ⟨b, 10, none⟩ x10).setCell ⟨b, 11, none⟩ x11).setCell ⟨b, 12, none⟩ x12).setCell ⟨b, 13, none⟩ x13)
theorem put14_turns (w : World) (b : Nat) (x0 : Value) (x1 : Value) (x2 : Value) (x3 : Value) (x4 : Value) (x5 : Value) (x6 : Value) (x7 : Value) (x8 : Value) (x9 : Value) (x10 : Value) (x11 : Value) (x12 : Value) (x13 : Value) : Turns (fun k => k = b) w (put14 w b x0 x1 x2 x3 x4 x5 x6 x7 x8 x9 x10 x11 x12 x13) := (((((((((((((put1_turns _ _ 0 _).trans (put1_turns _ _ 1 _)).trans (put1_turns _ _ 2 _)).trans (put1_turns _ _ 3 _)).trans (put1_turns _ _ 4 _)).trans (put1_turns _ _ 5 _)).trans (put1_turns _ _ 6 _)).trans (put1_turns _ _ 7 _)).trans (put1_turns _ _ 8 _)).trans (put1_turns _ _ 9 _)).trans (put1_turns _ _ 10 _)).trans (put1_turns _ _ 11 _)).trans (put1_turns _ _ 12 _)).trans (put1_turns _ _ 13 _)
set_option maxHeartbeats 4000000 in
theorem Bk.put14 {w : World} {b : Nat} {T : TypeId} {z0 z1 z2 z3 z4 z5 z6 z7 z8 z9 z10 z11 z12 z13 : Value} (h : Bk w b T #[z0, z1, z2, z3, z4, z5, z6, z7, z8, z9, z10, z11, z12, z13]) (x0 : Value) (x1 : Value) (x2 : Value) (x3 : Value) (x4 : Value) (x5 : Value) (x6 : Value) (x7 : Value) (x8 : Value) (x9 : Value) (x10 : Value) (x11 : Value) (x12 : Value) (x13 : Value) : Bk (put14 w b x0 x1 x2 x3 x4 x5 x6 x7 x8 x9 x10 x11 x12 x13) b T #[x0, x1, x2, x3, x4, x5, x6, x7, x8, x9, x10, x11, x12, x13] := by
 have h0 : Bk (w.setCell ⟨b, 0, none⟩ x0) b T #[x0, z1, z2, z3, z4, z5, z6, z7, z8, z9, z10, z11, z12, z13] := h.put 0 x0
 have h1 : Bk ((w.setCell ⟨b, 0, none⟩ x0).setCell ⟨b, 1, none⟩ x1) b T #[x0, x1, z2, z3, z4, z5, z6, z7, z8, z9, z10, z11, z12, z13] := h0.put 1 x1
 have h2 : Bk (((w.setCell ⟨b, 0, none⟩ x0).setCell ⟨b, 1, none⟩ x1).setCell ⟨b, 2, none⟩ x2) b T #[x0, x1, x2, z3, z4, z5, z6, z7, z8, z9, z10, z11, z12, z13] := h1.put 2 x2
 have h3 : Bk ((((w.setCell ⟨b, 0, none⟩ x0).setCell ⟨b, 1, none⟩ x1).setCell ⟨b, 2, none⟩ x2).setCell ⟨b, 3, none⟩ x3) b T #[x0, x1, x2, x3, z4, z5, z6, z7, z8, z9, z10, z11, z12, z13] := h2.put 3 x3
 have h4 : Bk (((((w.setCell ⟨b, 0, none⟩ x0).setCell ⟨b, 1, none⟩ x1).setCell ⟨b, 2, none⟩ x2).setCell ⟨b, 3, none⟩ x3).setCell ⟨b, 4, none⟩ x4) b T #[x0, x1, x2, x3, x4, z5, z6, z7, z8, z9, z10, z11, z12, z13] := h3.put 4 x4
 have h5 : Bk ((((((w.setCell ⟨b, 0, none⟩ x0).setCell ⟨b, 1, none⟩ x1).setCell ⟨b, 2, none⟩ x2).setCell ⟨b, 3, none⟩ x3).setCell ⟨b, 4, none⟩ x4).setCell ⟨b, 5, none⟩ x5) b T #[x0, x1, x2, x3, x4, x5, z6, z7, z8, z9, z10, z11, z12, z13] := h4.put 5 x5
 have h6 : Bk (((((((w.setCell ⟨b, 0, none⟩ x0).setCell ⟨b, 1, none⟩ x1).setCell ⟨b, 2, none⟩ x2).setCell ⟨b, 3, none⟩ x3).setCell ⟨b, 4, none⟩ x4).setCell ⟨b, 5, none⟩ x5).setCell ⟨b, 6, none⟩ x6) b T #[x0, x1, x2, x3, x4, x5, x6, z7, z8, z9, z10, z11, z12, z13] := h5.put 6 x6
 have h7 : Bk ((((((((w.setCell ⟨b, 0, none⟩ x0).setCell ⟨b, 1, none⟩ x1).setCell ⟨b, 2, none⟩ x2).setCell ⟨b, 3, none⟩ x3).setCell ⟨b, 4, none⟩ x4).setCell ⟨b, 5, none⟩ x5).setCell ⟨b, 6, none⟩ x6).setCell ⟨b, 7, none⟩ x7) b T #[x0, x1, x2, x3, x4, x5, x6, x7, z8, z9, z10, z11, z12, z13] := h6.put 7 x7
 have h8 : Bk (((((((((w.setCell ⟨b, 0, none⟩ x0).setCell ⟨b, 1, none⟩ x1).setCell ⟨b, 2, none⟩ x2).setCell ⟨b, 3, none⟩ x3).setCell ⟨b, 4, none⟩ x4).setCell ⟨b, 5, none⟩ x5).setCell ⟨b, 6, none⟩ x6).setCell ⟨b, 7, none⟩ x7).setCell ⟨b, 8, none⟩ x8) b T #[x0, x1, x2, x3, x4, x5, x6, x7, x8, z9, z10, z11, z12, z13] := h7.put 8 x8
 have h9 : Bk ((((((((((w.setCell ⟨b, 0, none⟩ x0).setCell ⟨b, 1, none⟩ x1).setCell ⟨b, 2, none⟩ x2).setCell ⟨b, 3, none⟩ x3).setCell ⟨b, 4, none⟩ x4).setCell ⟨b, 5, none⟩ x5).setCell ⟨b, 6, none⟩ x6).setCell ⟨b, 7, none⟩ x7).setCell ⟨b, 8, none⟩ x8).setCell ⟨b, 9, none⟩ x9) b T #[x0, x1, x2, x3, x4, x5, x6, x7, x8, x9, z10, z11, z12, z13] := h8.put 9 x9
 have h10 : Bk (((((((((((w.setCell ⟨b, 0, none⟩ x0).setCell ⟨b, 1, none⟩ x1).setCell ⟨b, 2, none⟩ x2).setCell ⟨b, 3, none⟩ x3).setCell ⟨b, 4, none⟩ x4).setCell ⟨b, 5, none⟩ x5).setCell ⟨b, 6, none⟩ x6).setCell ⟨b, 7, none⟩ x7).setCell ⟨b, 8, none⟩ x8).setCell ⟨b, 9, none⟩ x9).setCell ⟨b, 10, none⟩ x10) b T #[x0, x1, x2, x3, x4, x5, x6, x7, x8, x9, x10, z11, z12, z13] := h9.put 10 x10
 have h11 : Bk ((((((((((((w.setCell ⟨b, 0, none⟩ x0).setCell ⟨b, 1, none⟩ x1).setCell ⟨b, 2, none⟩ x2).setCell ⟨b, 3, none⟩ x3).setCell ⟨b, 4, none⟩ x4).setCell ⟨b, 5, none⟩ x5).setCell ⟨b, 6, none⟩ x6).setCell ⟨b, 7, none⟩ x7).setCell ⟨b, 8, none⟩ x8).setCell ⟨b, 9, none⟩ x9).setCell ⟨b, 10, none⟩ x10).setCell ⟨b, 11, none⟩ x11) b T #[x0, x1, x2, x3, x4, x5, x6, x7, x8, x9, x10, x11, z12, z13] := h10.put 11 x11
 have h12 : Bk (((((((((((((w.setCell ⟨b, 0, none⟩ x0).setCell ⟨b, 1, none⟩ x1).setCell ⟨b, 2, none⟩ x2).setCell ⟨b, 3, none⟩ x3).setCell ⟨b, 4, none⟩ x4).setCell ⟨b, 5, none⟩ x5).setCell ⟨b, 6, none⟩ x6).setCell ⟨b, 7, none⟩ x7).setCell ⟨b, 8, none⟩ x8).setCell ⟨b, 9, none⟩ x9).setCell ⟨b, 10, none⟩ x10).setCell ⟨b, 11, none⟩ x11).setCell ⟨b, 12, none⟩ x12) b T #[x0, x1, x2, x3, x4, x5, x6, x7, x8, x9, x10, x11, x12, z13] := h11.put 12 x12
 have h13 : Bk ((((((((((((((w.setCell ⟨b, 0, none⟩ x0).setCell ⟨b, 1, none⟩ x1).setCell ⟨b, 2, none⟩ x2).setCell ⟨b, 3, none⟩ x3).setCell ⟨b, 4, none⟩ x4).setCell ⟨b, 5, none⟩ x5).setCell ⟨b, 6, none⟩ x6).setCell ⟨b, 7, none⟩ x7).setCell ⟨b, 8, none⟩ x8).setCell ⟨b, 9, none⟩ x9).setCell ⟨b, 10, none⟩ x10).setCell ⟨b, 11, none⟩ x11).setCell ⟨b, 12, none⟩ x12).setCell ⟨b, 13, none⟩ x13) b T #[x0, x1, x2, x3, x4, x5, x6, x7, x8, x9, x10, x11, x12, x13] := h12.put 13 x13
 exact h13
def newK (m : Md) (d : List Int) : Kn := ⟨m, d, newPs m m.n.toNat, [], 6, -1, false, [], []⟩
theorem src_part {w : World} {X : Nat} {T : TypeId} {z0 z1 z2 z3 z4 z5 z6 : Value} (h : Bk w X T #[z0, z1, z2, z3, z4, z5, z6]) : SrcC w (.slice (some ⟨X, 0, none⟩) 1 1) 7 1 [z0, z1, z2, z3, z4, z5, z6] := by
 refine ⟨rfl, _, _, rfl, .inr ⟨X, 0, rfl, h.lt, fun j hj => ?_⟩⟩
 rw [Nat.zero_add]
 match j, hj with
 | 0, _ => exact h.cell rfl
 | 1, _ => exact h.cell rfl
 | 2, _ => exact h.cell rfl
 | 3, _ => exact h.cell rfl
 | 4, _ => exact h.cell rfl
 | 5, _ => exact h.cell rfl
 | 6, _ => exact h.cell rfl
 | (j + 7), hj => omega
theorem partL_ones (q : Pa) (a1 a4 a5 a6 : Option Addr) (n1 e1 n4 e4 n5 e5 n6 e6 : Nat) : ∀ u ∈ partL q (.slice a1 n1 e1) (.slice a4 n4 e4) (.slice a5 n5 e5) (.slice a6 n6 e6), u.oneCell' = true := by
 intro u hu
 simp only [partL, List.mem_cons, List.not_mem_nil, or_false] at hu
 rcases hu with rfl | rfl | rfl | rfl | rfl | rfl | rfl <;> rfl
theorem ok_lps {m : Md} (h : m.ok = true) : (m.i.length : Int) = m.n ∧ 0 ≤ m.n ∧ m.n ≤ 4 ∧ m.e.length ≤ 6 := by
 simp only [Md.ok, Bool.and_eq_true, decide_eq_true_eq] at h
 have h1 := h.1.1.1
 unfold Md.hd at h1
 omega
end Go.Proofs.YthfhibnnkpbeiaaGreat

/- Vectors: plain words, and the small functions of both sides. -/
namespace Go.Proofs.YthfhibnnkpbeiaaGreat
open Go.RowKit
def numOk (z : Int) : Bool := decide (-1 ≤ z) && decide (z ≤ 1)
def vok (l : List Int) : Bool := l.all numOk && decide (l.length = 4)
theorem numOk_iff {z : Int} : numOk z = true ↔ -1 ≤ z ∧ z ≤ 1 := by simp [numOk]
end Go.Proofs.YthfhibnnkpbeiaaGreat

