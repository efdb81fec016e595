/- Open, Key -/
import Derived.Test.YtnmcjgkeionjkaaRows
import Derived.Test.YtnmcjgkeionjkaaExactPartOkG17
import Derived.ProofKit
import Derived.ChangeOld
import Derived.Below
import Derived.OpenShut
import Derived.Test.YtnmcjgkeionjkaaExactPartOkG01
import Derived.DeepKeys4
import Derived.Maps.OwnIn
/- How an event that came in is read: seven integers. -/
namespace Go.Proofs.Ytnmcjgkeionjkaa
open Go.ChangeShapes Go.WideShapes Go.ChangeAt Go.RowKit

theorem cells23 : Try.prog.cellsOf 45 = 7 := by kernel_rfl

def wfI (x : Int) : Prop := (Lit.int .i64 x).wf = true

theorem list7 {α : Type} {l : List α} (h : l.length = 7) : ∃ a b c d e f g, l = [a, b, c, d, e, f, g] := by
  match l, h with
  | [a, b, c, d, e, f, g], _ => exact ⟨a, b, c, d, e, f, g, rfl⟩

set_option maxRecDepth 100000 in
theorem trod_ev {H : Type} {enc : TypeId × Value → H} {w : World} {base : Nat} {spare : Nat → Bool} {held : Bool} {fuel : Nat} {cs : List Value} {x : DataW H × List MemPlace}
    (h : DataW.trod enc Try.prog w base spare held fuel 45 cs = some x) :
    ∃ t s q d k v g : Int, cs = [.int .i64 t, .int .i64 s, .int .i64 q, .int .i64 d, .int .i64 k, .int .i64 v, .int .i64 g] ∧ wfI t ∧ wfI s ∧ wfI q ∧ wfI d ∧ wfI k ∧ wfI v ∧ wfI g := by
  obtain ⟨xs, n, _, rfl, hl, hlen, hf⟩ := DataW.trod_struct Try.underlying45 h
  rw [cells23] at hl
  obtain ⟨c0, c1, c2, c3, c4, c5, c6, rfl⟩ := list7 hl
  have hx : xs.length = 7 := by simpa using hlen
  obtain ⟨y0, y1, y2, y3, y4, y5, y6, rfl⟩ := list7 hx
  have h0 := hf 0 _ rfl
  have h1 := hf 1 _ rfl
  have h2 := hf 2 _ rfl
  have h3 := hf 3 _ rfl
  have h4 := hf 4 _ rfl
  have h5 := hf 5 _ rfl
  have h6 := hf 6 _ rfl
  obtain ⟨a0, e0, _, w0⟩ := DataW.trod_int Try.underlying3 h0
  obtain ⟨a1, e1, _, w1⟩ := DataW.trod_int Try.underlying3 h1
  obtain ⟨a2, e2, _, w2⟩ := DataW.trod_int Try.underlying3 h2
  obtain ⟨a3, e3, _, w3⟩ := DataW.trod_int Try.underlying3 h3
  obtain ⟨a4, e4, _, w4⟩ := DataW.trod_int Try.underlying3 h4
  obtain ⟨a5, e5, _, w5⟩ := DataW.trod_int Try.underlying3 h5
  obtain ⟨a6, e6, _, w6⟩ := DataW.trod_int Try.underlying3 h6
  simp [cells3] at e0 e1 e2 e3 e4 e5 e6
  subst e0 e1 e2 e3 e4 e5 e6
  exact ⟨a0, a1, a2, a3, a4, a5, a6, rfl, w0, w1, w2, w3, w4, w5, w6⟩

set_option maxRecDepth 100000 in
theorem open_ev {H : Type} {enc : TypeId × Value → H} {w : World} {base b0 : Nat} {spare : Nat → Bool} {held : Bool} {r : Reach} {v : Value} {d : DataW H} {p : List MemPlace}
    (hv : Value.okWide Try.prog w r b0 45 v) (h : DataW.Trod enc Try.prog w base spare held 45 v d p) :
    ∃ t s q d k z g : Int, v = .agg #[.int .i64 t, .int .i64 s, .int .i64 q, .int .i64 d, .int .i64 k, .int .i64 z, .int .i64 g] ∧ wfI t ∧ wfI s ∧ wfI q ∧ wfI d ∧ wfI k ∧ wfI z ∧ wfI g := by
  obtain ⟨cs, rfl, hsz⟩ := okWide_struct Try.underlying45 hv
  obtain ⟨fuel, hf⟩ := h
  obtain ⟨t, s, q, d, k, z, g, e, hw⟩ := trod_ev hf
  refine ⟨t, s, q, d, k, z, g, ?_, hw⟩
  rw [show cs = #[.int .i64 t, .int .i64 s, .int .i64 q, .int .i64 d, .int .i64 k, .int .i64 z, .int .i64 g] from by
    apply Array.toList_inj.1
    simpa [Value.cells] using e]
end Go.Proofs.Ytnmcjgkeionjkaa

/- The key of a tag, and what a map keyed by events asks of it. -/
namespace Go.Proofs.Ytnmcjgkeionjkaa
open Go.RowKit Go.Maps Go.WideShapes

abbrev keyV (g : Int) : Value := .agg #[.int .i64 0, .int .i64 0, .int .i64 0, .int .i64 0, .int .i64 0, .int .i64 0, .int .i64 g]
set_option maxHeartbeats 400000 in
theorem tagKey_any (g : Int) (w : World) : Calls Try.prog 111 #[.int .i64 g] w fun e w' => e = .returned (keyV g) ∧ Below w.heap.size w w' := by
  go_enter Try.func111, Try.ntmps111
  go_wp2
  exact bodyPost_ret (v := keyV g) (by simp [results, Try.results111, go_sem]) rfl ⟨rfl, (Below.refl _ _).alloc (Nat.le_refl _) _⟩

theorem row25 : (40 : TypeId) < Try.prog.types.size := of_decide_eq_true (by kernel_rfl)
theorem wide25 : (match Try.prog.underlying 40 with | some (.array _ _) | some (.struct _) => true | _ => false) = true := by rw [Try.underlying40]
set_option maxRecDepth 100000 in
theorem keyed25 : Keyed Try.prog 40 := Keyed.of_law (deep_law_laid laidOut (m := 2) (by omega) row25 (by kernel_rfl) wide25)
theorem run_makeMap_hint (n : Int) (w : World) : (Instr.makeMap 129 (some (.int .i64 n))).run Try.prog w = .ok (.map (some w.heap.size)) (w.alloc (.map #[] 0)) := by
  simp [Instr.makeMap, run_underlying Try.underlying129, asInt, asIntOf, Result.andThen]
def keyL (g : Int) : Lit := .string (keyBytes [.int .i64 0, .int .i64 0, .int .i64 0, .int .i64 0, .int .i64 0, .int .i64 0, .int .i64 g])
theorem cells25 : Try.prog.cellsOf 40 = 7 := by kernel_rfl
theorem keyType25 : Try.prog.keyType 40 = true := by kernel_rfl
theorem int_lits (d : Nat) (x : Int) (h : wfI x) : Try.prog.keyLits (d + 1) 3 [.int .i64 x] = some [.int .i64 x] := by
  unfold wfI at h
  unfold Program.keyLits
  rw [Try.underlying3]
  simp [h]
theorem zero_wf : wfI 0 := by unfold wfI; decide
theorem typesSize : ∃ d, Try.prog.types.size + 1 = d + 2 := ⟨Try.prog.types.size - 1, by have : 40 < Try.prog.types.size := row25; omega⟩
theorem keyOf_tag (g : Int) (h : wfI g) : keyOf Try.prog 40 (keyV g) = some (keyL g) := by
  obtain ⟨d, hd⟩ := typesSize
  have hf : (keyV g).formed Try.prog 40 = true := by simp [Value.formed, Try.underlying40, cells25]
  have hl : Try.prog.keyLits (d + 2) 40 (keyV g).cells.toList = some [.int .i64 0, .int .i64 0, .int .i64 0, .int .i64 0, .int .i64 0, .int .i64 0, .int .i64 g] := by
    unfold Program.keyLits
    rw [Try.underlying40]
    simp [Value.cells, cells25, cells3, int_lits _ _ zero_wf, int_lits _ _ h]
  unfold keyOf
  rw [Try.underlying40]
  simp only [keyType25, hf, hd, hl]
  rfl
theorem keyL_inj {g g' : Int} (h : wfI g) (h' : wfI g') (e : keyL g = keyL g') : g = g' := by
  have := keyed25.inj (keyOf_tag g h) (by rw [e]; exact keyOf_tag g' h')
  simpa using this
end Go.Proofs.Ytnmcjgkeionjkaa

