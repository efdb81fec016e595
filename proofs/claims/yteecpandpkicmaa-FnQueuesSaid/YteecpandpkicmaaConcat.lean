/- slices.Concat at the program's events. -/
import Derived.Test.YteecpandpkicmaaGrow
import Derived.Laws.AppendOwnNone
namespace Go.Proofs.Yteecpandpkicmaa
open Go.RowKit

/- A list that is handed to Concat: where it lies, its room, what it holds. -/
structure Part where
  a : Option Addr
  c : Nat
  l : List Ev
def partAt (ps : List Part) (i : Nat) : Part := ps.getD i ⟨none, 0, []⟩
def PartsAt (w : World) (B : Nat) (ps : List Part) : Prop := B < w.heap.size ∧ ∀ i, i < ps.length → w.cell? ⟨B, i, none⟩ = some (.slice (partAt ps i).a (partAt ps i).l.length (partAt ps i).c) ∧ (((partAt ps i).a = none ∧ (partAt ps i).c = 0 ∧ (partAt ps i).l = []) ∨ ∃ b off, (partAt ps i).a = some ⟨b, off, none⟩ ∧ ((partAt ps i).l = [] ∨ EvsAt w b off (partAt ps i).l))
theorem PartsAt.below {w w' : World} {B : Nat} {ps : List Part} (h : PartsAt w B ps) (hb : Below w.heap.size w w') : PartsAt w' B ps :=
  ⟨Nat.lt_of_lt_of_le h.1 hb.size, fun i hi => ⟨(hb.cell (p := ⟨B, i, none⟩) h.1).trans (h.2 i hi).1, (h.2 i hi).2.imp id (fun ⟨b, off, e1, e2⟩ => ⟨b, off, e1, e2.imp id (fun e => e.below hb e.1)⟩)⟩⟩
def catTo (ps : List Part) : Nat → List Ev
  | 0 => []
  | k + 1 => catTo ps k ++ (partAt ps k).l
theorem catTo_le (ps : List Part) (k n : Nat) (h : k ≤ n) : (catTo ps k).length ≤ (catTo ps n).length := by
  induction n with
  | zero => rw [show k = 0 by omega]; exact Nat.le_refl _
  | succ n ih =>
    by_cases e : k = n + 1
    · rw [e]; exact Nat.le_refl _
    · have := ih (by omega)
      simp only [catTo, List.length_append]
      omega

set_option maxRecDepth 100000 in
set_option maxHeartbeats 2000000 in
theorem concat_any (B : Nat) (ps : List Part) (w : World) (hps : ps.length ≤ 1000) (hn : (catTo ps ps.length).length ≤ 4194304) (hP : PartsAt w B ps) :
    Calls Try.prog 33 #[.slice (some ⟨B, 0, none⟩) ps.length ps.length] w fun e w' => ∃ x, e = .returned x ∧ OwnEvs w.heap.size w' x (catTo ps ps.length) ∧ Below w.heap.size w w' := by
  obtain ⟨i0, hi, hz0, hz1, hz2⟩ := info_parts info25
  have HP : Hid (PartsAt w B ps) := hP
  clear hP
  have HN : Hid ((catTo ps ps.length).length ≤ 4194304) := hn
  clear hn
  go_enter Try.func33, Try.ntmps33
  go_wp2
  go_loop [3, 11] (fun z i => ∃ k : Nat, k ≤ ps.length ∧ i = .int .i64 k ∧ z = .int .i64 ((catTo ps k).length : Int)) (fun _ i => ps.length - (intOf i).toNat)
  case atStart => exact ⟨0, Nat.zero_le _, rfl, rfl⟩
  case round =>
    obtain ⟨k, hk, rfl, rfl⟩ := hrel
    by_cases hlt : k < ps.length
    · have hc := (HP.out.2 k hlt).1
      have hle := catTo_le ps (k + 1) ps.length (by omega)
      have hsum : (catTo ps (k + 1)).length = (catTo ps k).length + (partAt ps k).l.length := by simp [catTo]
      generalize hA : (catTo ps k).length = A at hsum ⊢
      generalize hL : (partAt ps k).l.length = L at hsum hc
      have hA1 : (A : Int) + (L : Int) ≤ 4194304 := by have := HN.out; omega
      have hA2 : (0 : Int) ≤ (A : Int) + (L : Int) := by omega
      have HS : Hid ((catTo ps (k + 1)).length = A + L) := hsum
      clear hA hL hsum hle
      go_wp2
      go_round
      case rel => exact ⟨k + 1, by omega, by go_num, by rw [HS.out]; go_num⟩
      case measure => simp [intOf]; omega
    · obtain rfl : k = ps.length := by omega
      generalize hT : (catTo ps ps.length).length = T
      have HT : Hid ((catTo ps ps.length).length = T) := hT
      have hT1 : T ≤ 4194304 := by have := HN.out; omega
      clear hT
      go_wp2_with (go_at_call 55; refine (grow_any T _ hT1).mono ?_; rintro e w1 ⟨v0, rfl, hr1, hb1⟩)
      have HR1 : Hid (w1.ownsRow w.heap.size 25 7 v0 0 []) := hr1
      have HB1 : Hid (Below w.heap.size w w1) := hb1
      clear hr1 hb1
      go_loopw [6, 27] (fun v i wr => ∃ k : Nat, k ≤ ps.length ∧ i = .int .i64 k ∧ Hid (wr.ownsRow w.heap.size 25 7 v (catTo ps k).length (cellsL (catTo ps k))) ∧ Hid (Below w.heap.size w wr)) (fun _ i _ => ps.length - (intOf i).toNat)
      case atStart => exact ⟨0, Nat.zero_le _, rfl, HR1.out, HB1.out⟩
      case round =>
        clear HR1 HB1
        obtain ⟨k, hk, rfl, HR, HB⟩ := hrel
        by_cases hlt : k < ps.length
        · have hPk := HP.out.below HB.out
          have hc := (hPk.2 k hlt).1
          have HE : Hid (((partAt ps k).a = none ∧ (partAt ps k).c = 0 ∧ (partAt ps k).l = []) ∨ ∃ b off, (partAt ps k).a = some ⟨b, off, none⟩ ∧ ((partAt ps k).l = [] ∨ EvsAt wr b off (partAt ps k).l)) := (hPk.2 k hlt).2
          clear hPk
          have hle := catTo_le ps (k + 1) ps.length (by omega)
          have hsum : (catTo ps (k + 1)).length = (catTo ps k).length + (partAt ps k).l.length := by simp [catTo]
          have hsz : w.heap.size ≤ wr.heap.size := HB.out.size
          have hb1 : (catTo ps k).length + (partAt ps k).l.length ≤ 4194304 := by have := HN.out; omega
          have HS : Hid ((catTo ps (k + 1)).length = (catTo ps k).length + (partAt ps k).l.length) := hsum
          clear hle hsum
          rcases HE.out with ⟨ha, hcz, hl0⟩ | ⟨b, off, ha, hE⟩
          · have HL : Hid ((partAt ps k).l = []) := hl0
            rw [ha, hcz, hl0] at hc
            simp only [List.length_nil] at hc
            clear ha hcz hl0 HE hb1
            go_wp2_with (at_builtin; refine wpList_append_own_none rfl _ _ 23 rfl w.heap.size 25 i0 7 Try.underlying23 hi _ (catTo ps k).length (cellsL (catTo ps k)) rfl HR.out rfl ?_)
            go_roundw
            case rel => exact ⟨k + 1, by omega, by go_num, by rw [show catTo ps (k + 1) = catTo ps k from by show catTo ps k ++ (partAt ps k).l = _; rw [HL.out, List.append_nil]]; exact HR.out, HB.out⟩
            case measure => simp [intOf]; omega
          · rw [ha] at hc
            have HC : Hid (∀ j u, (cellsL (partAt ps k).l)[j]? = some u → wr.cell? ((⟨b, off, none⟩ : Addr).add j) = some u) := by
              rcases hE with h | h
              · exact fun j u hu => by rw [h] at hu; cases hu
              · exact h.cells
            clear ha hE HE
            go_wp2_with (at_builtin; refine wpList_append_own _ rfl _ _ 23 rfl w.heap.size 25 i0 _ 7 56 Try.underlying23 hi hz0 hz1 hz2 rfl (by decide) _ (catTo ps k).length (cellsL (catTo ps k)) rfl HR.out ⟨b, off, none⟩ (partAt ps k).l.length (partAt ps k).c (cellsL (partAt ps k).l) rfl (cellsL_length _) HC.out (cellsL_one _) (by unfold maxLen; omega) (by omega) hsz ?_; intro v' w2 hown hgrow hnil)
            go_roundw
            case rel => exact ⟨k + 1, by omega, by go_num, by rw [HS.out]; show World.ownsRow _ _ _ _ _ _ (cellsL (catTo ps k ++ (partAt ps k).l)); rw [cellsL_append]; exact hown, HB.out.grown hgrow hsz (fun r e => row_ge HR.out e)⟩
            case measure => simp [intOf]; omega
        · obtain rfl : k = ps.length := by omega
          go_wp2
          go_ret
          exact ⟨_, rfl, OwnEvs.of_row HR.out, HB.out⟩
end Go.Proofs.Yteecpandpkicmaa
