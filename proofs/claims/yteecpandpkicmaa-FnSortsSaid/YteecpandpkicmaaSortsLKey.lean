/- The key of a tag, and what a map keyed by events asks of it. -/
import Derived.Test.YteecpandpkicmaaSortsG01
import Derived.Test.YteecpandpkicmaaSortsG05
import Derived.DeepKeys4
import Derived.Maps.OwnIn
namespace Go.Proofs.Yteecpandpkicmaa
open Go.RowKit Go.Maps Go.WideShapes

abbrev keyV (g : Int) : Value := .agg #[.int .i64 0, .int .i64 0, .int .i64 0, .int .i64 0, .int .i64 0, .int .i64 0, .int .i64 g]
set_option maxHeartbeats 400000 in
theorem tagKey_any (g : Int) (w : World) : Calls Try.prog 30 #[.int .i64 g] w fun e w' => e = .returned (keyV g) ∧ Below w.heap.size w w' := by
  go_enter Try.func30, Try.ntmps30
  go_wp2
  exact bodyPost_ret (v := keyV g) (by simp [results, Try.results30, go_sem]) rfl ⟨rfl, (Below.refl _ _).alloc (Nat.le_refl _) _⟩

theorem row25 : (25 : TypeId) < Try.prog.types.size := of_decide_eq_true (by kernel_rfl)
theorem wide25 : (match Try.prog.underlying 25 with | some (.array _ _) | some (.struct _) => true | _ => false) = true := by rw [Try.underlying25]
set_option maxRecDepth 100000 in
theorem keyed25 : Keyed Try.prog 25 := Keyed.of_law (deep_law_laid laidOut (m := 2) (by omega) row25 (by kernel_rfl) wide25)
theorem run_makeMap_hint (n : Int) (w : World) : (Instr.makeMap 51 (some (.int .i64 n))).run Try.prog w = .ok (.map (some w.heap.size)) (w.alloc (.map #[] 0)) := by
  simp [Instr.makeMap, run_underlying Try.underlying51, asInt, asIntOf, Result.andThen]
def keyL (g : Int) : Lit := .string (keyBytes [.int .i64 0, .int .i64 0, .int .i64 0, .int .i64 0, .int .i64 0, .int .i64 0, .int .i64 g])
theorem cells25 : Try.prog.cellsOf 25 = 7 := by kernel_rfl
theorem keyType25 : Try.prog.keyType 25 = true := by kernel_rfl
theorem int_lits (d : Nat) (x : Int) (h : wfI x) : Try.prog.keyLits (d + 1) 3 [.int .i64 x] = some [.int .i64 x] := by
  unfold wfI at h
  unfold Program.keyLits
  rw [Try.underlying3]
  simp [h]
theorem zero_wf : wfI 0 := by unfold wfI; decide
theorem typesSize : ∃ d, Try.prog.types.size + 1 = d + 2 := ⟨Try.prog.types.size - 1, by have : 25 < Try.prog.types.size := row25; omega⟩
theorem keyOf_tag (g : Int) (h : wfI g) : keyOf Try.prog 25 (keyV g) = some (keyL g) := by
  obtain ⟨d, hd⟩ := typesSize
  have hf : (keyV g).formed Try.prog 25 = true := by simp [Value.formed, Try.underlying25, cells25]
  have hl : Try.prog.keyLits (d + 2) 25 (keyV g).cells.toList = some [.int .i64 0, .int .i64 0, .int .i64 0, .int .i64 0, .int .i64 0, .int .i64 0, .int .i64 g] := by
    unfold Program.keyLits
    rw [Try.underlying25]
    simp [Value.cells, cells25, cells3, int_lits _ _ zero_wf, int_lits _ _ h]
  unfold keyOf
  rw [Try.underlying25]
  simp only [keyType25, hf, hd, hl]
  rfl
theorem keyL_inj {g g' : Int} (h : wfI g) (h' : wfI g') (e : keyL g = keyL g') : g = g' := by
  have := keyed25.inj (keyOf_tag g h) (by rw [e]; exact keyOf_tag g' h')
  simpa using this
end Go.Proofs.Yteecpandpkicmaa
