/- slices.Grow of the nil slice, at the program's events. -/
import Derived.Test.YteecpandpkicmaaRemS
namespace Go.Proofs.Yteecpandpkicmaa
open Go.RowKit

abbrev zeroE : Value := .agg #[.int .i64 0, .int .i64 0, .int .i64 0, .int .i64 0, .int .i64 0, .int .i64 0, .int .i64 0]
theorem run_append_make (ty : TypeId) (n : Nat) (w : World) (h0 : 0 < n) (hn : n ≤ 4194304) :
    (Builtin.append_ #[23, 3] ty #[.slice none 0 0, .int .i64 (n : Int)]).run Try.prog w =
      .ok (.slice (some ⟨w.heap.size, 0, none⟩) n (grownCap w n 0 25)) (w.drew.alloc (.cells (Builtin.zeroCells zeroE.cells n ++ Builtin.zeroCells zeroE.cells (grownCap w n 0 25 - n)) 25)) := by
  obtain ⟨i0, hi, hz0, hz1, hz2⟩ := info_parts info25
  have hn0 : n ≠ 0 := by omega
  have h63 : ¬ (9223372036854775807 < (n : Int)) := by omega
  have hw : IntKind.i64.wrap (n : Int) = (n : Int) := by rw [IntKind.wrap_i64]; omega
  have hneg : ¬ ((n : Int) < 0) := by omega
  have h48a : ¬ (281474976710656 < (n : Int) * (i0.bytes : Int)) := by rw [hz2]; omega
  have h48b : ¬ (281474976710656 < Builtin.nextslicecap n 0 * i0.bytes) := by rw [nextslicecap_zero h0, hz2]; omega
  simp [Builtin.append_, run_underlying Try.underlying23, run_underlying Try.underlying3, sizeOf, typeInfo, zeroValue, hi, hz0, asInt, asIntOf, hw, hneg, h48a, hz1, hn0, h63, h48b, Question.forced, run_firstCells_none, newRow, grownCap]
  intro h
  omega

theorem wpList_append_make {ops : Array Oper} {rest : List Oper} {o : Oper} {a : Act} {w : World} {Q : Exit → Act → World → Prop} (hg : o.guard = none) (s x : Operand)
    (ho : o.op = .call { callee := .builtin .append, args := #[s, x], argTypes := #[23, 3] }) (n : Nat) (hs : a.eval s = .slice none 0 0) (hx : a.eval x = .int .i64 (n : Int)) (h0 : 0 < n) (hn : n ≤ 4194304)
    (hK : wpList Try.prog ops Q rest (a.put o.dst (.slice (some ⟨w.heap.size, 0, none⟩) n (grownCap w n 0 25))) (w.drew.alloc (.cells (Builtin.zeroCells zeroE.cells n ++ Builtin.zeroCells zeroE.cells (grownCap w n 0 25 - n)) 25))) :
    wpList Try.prog ops Q (o :: rest) a w := by
  refine wpList_plain hg fun K hK' => ?_
  unfold Oper.wp
  simp [execOp, ho, resolve, invoke, builtin, hs, hx, run_append_make _ n w h0 hn, Result.andThen]
  exact hK' _ _ hK

theorem grown_row (w : World) (n : Nat) (hn : n ≤ 4194304) : (w.drew.alloc (.cells (Builtin.zeroCells zeroE.cells n ++ Builtin.zeroCells zeroE.cells (grownCap w n 0 25 - n)) 25)).ownsRow w.heap.size 25 7 (.slice (some ⟨w.heap.size, 0, none⟩) 0 (grownCap w n 0 25)) 0 [] := by
  have hge := grownCap_ge w n 0 25
  have hcm : grownCap w n 0 25 ≤ maxLen := grownCap_le_maxLen w n 0 25 (by unfold maxLen; omega)
  refine ⟨rfl, .inr ⟨w.heap.size, _, _, rfl, Nat.le_refl _, (MapKept.heap_alloc w.drew _).1, Nat.zero_le _, hcm, ?_, by simp⟩⟩
  rw [Array.size_append, size_zeroCells, size_zeroCells, ← Nat.add_mul, show n + (grownCap w n 0 25 - n) = grownCap w n 0 25 from by omega]
  rfl

set_option maxHeartbeats 1000000 in
theorem grow_any (n : Nat) (w : World) (hn : n ≤ 4194304) :
    Calls Try.prog 55 #[.slice none 0 0, .int .i64 (n : Int)] w fun e w' => ∃ v, e = .returned v ∧ w'.ownsRow w.heap.size 25 7 v 0 [] ∧ Below w.heap.size w w' := by
  by_cases h0 : n = 0
  · subst h0
    go_enter Try.func55, Try.ntmps55
    go_wp2
    go_ret
    exact ⟨.slice none 0 0, rfl, World.ownsRow_nil w _ 25 7, Below.refl _ _⟩
  · have hp : 0 < n := by omega
    have hp' : (0 : Int) < (n : Int) := by omega
    have hge := grownCap_ge w n 0 25
    have hcm : grownCap w n 0 25 ≤ maxLen := grownCap_le_maxLen w n 0 25 (by unfold maxLen; omega)
    have HR : Hid ((w.drew.alloc (.cells (Builtin.zeroCells zeroE.cells n ++ Builtin.zeroCells zeroE.cells (grownCap w n 0 25 - n)) 25)).ownsRow w.heap.size 25 7 (.slice (some ⟨w.heap.size, 0, none⟩) 0 (grownCap w n 0 25)) 0 []) := grown_row w n hn
    go_enter Try.func55, Try.ntmps55
    go_wp2_with (at_builtin; refine wpList_append_make rfl _ _ rfl n rfl rfl hp hn ?_)
    go_ret
    exact ⟨.slice (some ⟨w.heap.size, 0, none⟩) 0 (grownCap w n 0 25), rfl, HR.out, (Below.refl _ w).drew.alloc (Nat.le_refl _) _⟩
end Go.Proofs.Yteecpandpkicmaa
