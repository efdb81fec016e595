/- VOpen, Open, Key -/
import Derived.Test.YtnccenbkpocjgaaGreatExactHearG01
import Derived.ProofKit
import Derived.ChangeOld
import Derived.OpenShut
import Derived.SizedLaws
import Derived.Test.YtnccenbkpocjgaaGreatRows
import Derived.Below
import Derived.DeepKeys4
import Derived.Maps.OwnIn
/- How a list of numbers that came in is read. -/
namespace Go.Proofs.YtnccenbkpocjgaaGreat
open Go.ChangeShapes Go.WideShapes Go.ChangeAt Go.RowKit
theorem own : ownKnob Tryz.prog.godebug = none := by kernel_rfl
theorem laidOut : laidOutB Tryz.prog = true := by kernel_rfl
theorem cells3 : Tryz.prog.cellsOf 3 = 1 := by kernel_rfl
theorem add_plain (b off n : Nat) : (⟨b, off, none⟩ : Addr).add n = ⟨b, off + n, none⟩ := by
 unfold Addr.add
 split <;> simp_all
theorem ints_list {w : World} {b off : Nat} : ∀ n, (∀ i, i < n → ∃ z : Int, w.cell? ⟨b, off + i, none⟩ = some (.int .i64 z)) → ∃ l : List Int, l.length = n ∧ ∀ i, i < n → w.cell? ⟨b, off + i, none⟩ = some (.int .i64 (intAt l i))
 | 0, _ => ⟨[], rfl, fun i hi => by omega⟩
 | n + 1, h => by
  obtain ⟨l, hl, hi⟩ := ints_list n (fun i hi => h i (by omega))
  obtain ⟨e, he⟩ := h n (by omega)
  refine ⟨l ++ [e], by simp [hl], fun i hi' => ?_⟩
  by_cases hin : i < n
  ·have : intAt (l ++ [e]) i = intAt l i := by unfold intAt; simp [List.getElem?_append_left (by omega : i < l.length)]
   rw [this]; exact hi i hin
  ·have : intAt (l ++ [e]) i = e := by unfold intAt; simp [show i = l.length by omega]
   rw [this, show i = n by omega]; exact he
end Go.Proofs.YtnccenbkpocjgaaGreat

/- How an event that came in is read: seven integers. -/
namespace Go.Proofs.YtnccenbkpocjgaaGreat
open Go.ChangeShapes Go.WideShapes Go.ChangeAt Go.RowKit
theorem cells23 : Tryz.prog.cellsOf 50 = 7 := by kernel_rfl
def wfI (x : Int) : Prop := (Lit.int .i64 x).wf = true
theorem list7 {α : Type} {l : List α} (h : l.length = 7) : ∃ a b c d e f g, l = [a, b, c, d, e, f, g] := by
 match l, h with
 | [a, b, c, d, e, f, g], _ => exact ⟨a, b, c, d, e, f, g, rfl⟩
set_option maxRecDepth 100000 in
theorem trod_ev {H : Type} {enc : TypeId × Value → H} {w : World} {base : Nat} {spare : Nat → Bool} {held : Bool} {fuel : Nat} {cs : List Value} {x : DataW H × List MemPlace}
  (h : DataW.trod enc Tryz.prog w base spare held fuel 50 cs = some x) :
  ∃ t s q d k v g : Int, cs = [.int .i64 t, .int .i64 s, .int .i64 q, .int .i64 d, .int .i64 k, .int .i64 v, .int .i64 g] ∧ wfI t ∧ wfI s ∧ wfI q ∧ wfI d ∧ wfI k ∧ wfI v ∧ wfI g := by
 obtain ⟨xs, n, _, rfl, hl, hlen, hf⟩ := DataW.trod_struct Tryz.underlying50 h
 rw [cells23] at hl
 obtain ⟨c0, c1, c2, c3, c4, c5, c6, rfl⟩ := list7 hl
 have hx : xs.length = 7 := by simpa using hlen
 obtain ⟨y0, y1, y2, y3, y4, y5, y6, rfl⟩ := list7 hx
 have h0 := hf 0 _ rfl
 have h1 := hf 1 _ rfl
 have h2 := hf 2 _ rfl
 have h3 := hf 3 _ rfl
 have h4 := hf 4 _ rfl
 have h5 := hf 5 _ rfl
 have h6 := hf 6 _ rfl
 obtain ⟨a0, e0, _, w0⟩ := DataW.trod_int Tryz.underlying3 h0
 obtain ⟨a1, e1, _, w1⟩ := DataW.trod_int Tryz.underlying3 h1
 obtain ⟨a2, e2, _, w2⟩ := DataW.trod_int Tryz.underlying3 h2
 obtain ⟨a3, e3, _, w3⟩ := DataW.trod_int Tryz.underlying3 h3
 obtain ⟨a4, e4, _, w4⟩ := DataW.trod_int Tryz.underlying3 h4
 obtain ⟨a5, e5, _, w5⟩ := DataW.trod_int Tryz.underlying3 h5
 obtain ⟨a6, e6, _, w6⟩ := DataW.trod_int Tryz.underlying3 h6
 simp [cells3] at e0 e1 e2 e3 e4 e5 e6
 subst e0 e1 e2 e3 e4 e5 e6
 exact ⟨a0, a1, a2, a3, a4, a5, a6, rfl, w0, w1, w2, w3, w4, w5, w6⟩
set_option maxRecDepth 100000 in
theorem open_ev {H : Type} {enc : TypeId × Value → H} {w : World} {base b0 : Nat} {spare : Nat → Bool} {held : Bool} {r : Reach} {v : Value} {d : DataW H} {p : List MemPlace}
  (hv : Value.okWide Tryz.prog w r b0 50 v) (h : DataW.Trod enc Tryz.prog w base spare held 50 v d p) :
  ∃ t s q d k z g : Int, v = .agg #[.int .i64 t, .int .i64 s, .int .i64 q, .int .i64 d, .int .i64 k, .int .i64 z, .int .i64 g] ∧ wfI t ∧ wfI s ∧ wfI q ∧ wfI d ∧ wfI k ∧ wfI z ∧ wfI g := by
 obtain ⟨cs, rfl, hsz⟩ := okWide_struct Tryz.underlying50 hv
 obtain ⟨fuel, hf⟩ := h
 obtain ⟨t, s, q, d, k, z, g, e, hw⟩ := trod_ev hf
 refine ⟨t, s, q, d, k, z, g, ?_, hw⟩
 rw [show cs = #[.int .i64 t, .int .i64 s, .int .i64 q, .int .i64 d, .int .i64 k, .int .i64 z, .int .i64 g] from by
  apply Array.toList_inj.1
  simpa [Value.cells] using e]
end Go.Proofs.YtnccenbkpocjgaaGreat

/- The key of a tag, and what a map keyed by events asks of it. -/
namespace Go.Proofs.YtnccenbkpocjgaaGreat
open Go.RowKit Go.Maps Go.WideShapes
abbrev keyV (g : Int) : Value := .agg #[.int .i64 0, .int .i64 0, .int .i64 0, .int .i64 0, .int .i64 0, .int .i64 0, .int .i64 g]
set_option maxHeartbeats 400000 in
theorem tagKey_any (g : Int) (w : World) : Calls Tryz.prog 214 #[.int .i64 g] w fun e w' => e = .returned (keyV g) ∧ Below w.heap.size w w' := by
 go_enter Tryz.func214, Tryz.ntmps214
 go_wp2
 exact bodyPost_ret (v := keyV g) (by simp [results, Tryz.results214, go_sem]) rfl ⟨rfl, (Below.refl _ _).alloc (Nat.le_refl _) _⟩
theorem row25 : (55 : TypeId) < Tryz.prog.types.size := of_decide_eq_true (by kernel_rfl)
theorem wide25 : (match Tryz.prog.underlying 55 with | some (.array _ _) | some (.struct _) => true | _ => false) = true := by rw [Tryz.underlying55]
set_option maxRecDepth 100000 in
theorem keyed25 : Keyed Tryz.prog 55 := Keyed.of_law (deep_law_laid laidOut (m := 2) (by omega) row25 (by kernel_rfl) wide25)
theorem run_makeMap_hint (n : Int) (w : World) : (Instr.makeMap 227 (some (.int .i64 n))).run Tryz.prog w = .ok (.map (some w.heap.size)) (w.alloc (.map #[] 0)) := by
 simp [Instr.makeMap, run_underlying Tryz.underlying227, asInt, asIntOf, Result.andThen]
def keyL (g : Int) : Lit := .string (keyBytes [.int .i64 0, .int .i64 0, .int .i64 0, .int .i64 0, .int .i64 0, .int .i64 0, .int .i64 g])
theorem cells25 : Tryz.prog.cellsOf 55 = 7 := by kernel_rfl
theorem keyType25 : Tryz.prog.keyType 55 = true := by kernel_rfl
theorem int_lits (d : Nat) (x : Int) (h : wfI x) : Tryz.prog.keyLits (d + 1) 3 [.int .i64 x] = some [.int .i64 x] := by
 unfold wfI at h
 unfold Program.keyLits
 rw [Tryz.underlying3]
 simp [h]
theorem zero_wf : wfI 0 := by unfold wfI; decide
theorem typesSize : ∃ d, Tryz.prog.types.size + 1 = d + 2 := ⟨Tryz.prog.types.size - 1, by have : 55 < Tryz.prog.types.size := row25; omega⟩
theorem keyOf_tag (g : Int) (h : wfI g) : keyOf Tryz.prog 55 (keyV g) = some (keyL g) := by
 obtain ⟨d, hd⟩ := typesSize
 have hf : (keyV g).formed Tryz.prog 55 = true := by simp [Value.formed, Tryz.underlying55, cells25]
 have hl : Tryz.prog.keyLits (d + 2) 55 (keyV g).cells.toList = some [.int .i64 0, .int .i64 0, .int .i64 0, .int .i64 0, .int .i64 0, .int .i64 0, .int .i64 g] := by
  unfold Program.keyLits
  rw [Tryz.underlying55]
  simp [Value.cells, cells25, cells3, int_lits _ _ zero_wf, int_lits _ _ h]
 unfold keyOf
 rw [Tryz.underlying55]
 simp only [keyType25, hf, hd, hl]
 rfl
theorem keyL_inj {g g' : Int} (h : wfI g) (h' : wfI g') (e : keyL g = keyL g') : g = g' := by
 have := keyed25.inj (keyOf_tag g h) (by rw [e]; exact keyOf_tag g' h')
 simpa using this
end Go.Proofs.YtnccenbkpocjgaaGreat

