/- DMore, VOpen, NOpen -/
import Derived.Test.YtofbholpggkjcabRefinesG05
import Derived.OwnWalk
import Derived.Test.YtofbholpggkjcabRefinesG00
import Derived.ProofKit
import Derived.ChangeOld
import Derived.OpenShut
import Derived.SizedLaws
import Derived.Test.YtofbholpggkjcabRefinesG04
/- A code that is another one: two bytes ahead. -/
namespace Go.Proofs.Ytofbholpggkjcab
open Go.RowKit
theorem code_list {w : World} {b off : Nat} : ∀ n, (∀ i, i < n → ∃ z : Nat, z < 256 ∧ w.cell? ⟨b, off + i, none⟩ = some (.int .u8 (z : Int))) → ∃ l : List Nat, l.length = n ∧ (∀ z ∈ l, z < 256) ∧ ∀ i, i < n → w.cell? ⟨b, off + i, none⟩ = some (.int .u8 ((l.getD i 0 : Nat) : Int))
  | 0, _ => ⟨[], rfl, fun z hz => by simp at hz, fun i hi => by omega⟩
  | n + 1, h => by
    obtain ⟨l, hl, h2, hi⟩ := code_list n (fun i hi => h i (by omega))
    obtain ⟨z, hz, hc⟩ := h n (by omega)
    refine ⟨l ++ [z], by simp [hl], fun y hy => ?_, fun i hi' => ?_⟩
    · simp at hy
      rcases hy with hy | rfl
      · exact h2 y hy
      · exact hz
    · by_cases hin : i < n
      · have : (l ++ [z]).getD i 0 = l.getD i 0 := by simp [List.getElem?_append_left (by omega : i < l.length)]
        rw [this]; exact hi i hin
      · have : (l ++ [z]).getD i 0 = z := by simp [show i = l.length by omega]
        rw [this, show i = n by omega]; exact hc
def u8Cells (l : List Nat) : List Value := l.map fun z => Value.int .u8 ((z : Nat) : Int)
theorem u8Cells_one {l : List Nat} : ∀ u ∈ u8Cells l, u.oneCell' = true := by
  intro u hu
  simp [u8Cells] at hu
  obtain ⟨x, _, rfl⟩ := hu
  rfl
theorem info5 : (Try.prog.info? 5).map (fun i => (i.zero, i.size, i.bytes)) = some (some (.int .u8 0), 1, 1) := by kernel_rfl
theorem row_two (w : World) : (w.alloc (.cells #[.int .u8 1, .int .u8 7] 5)).ownsRow w.heap.size 5 1 (.slice (some ⟨w.heap.size, 0, none⟩) 2 2) 2 (u8Cells [1, 7]) :=
  ⟨rfl, .inr ⟨w.heap.size, 2, #[.int .u8 1, .int .u8 7], rfl, Nat.le_refl _, (MapKept.heap_alloc w _).1, Nat.le_refl _, by unfold maxLen; omega, rfl, rfl⟩⟩
theorem row_code {w : World} {B : Nat} {v : Value} {n : Nat} {l : List Nat} (h : w.ownsRow B 5 1 v n (u8Cells l)) (hl : l.length = n) (h2 : ∀ z ∈ l, z < 256) (h0 : 0 < n) : ∃ a cap, v = .slice a n cap ∧ CodeIn w w.heap.size a n := by
  have h' := h
  obtain ⟨_, ⟨_, h1⟩ | ⟨g, cap, cur, rfl, hg, hc, _, _, _, _⟩⟩ := h
  · omega
  · refine ⟨_, cap, rfl, .inr ⟨g, 0, rfl, (World.ownsRow.lt h' g rfl).2, fun i hi => ?_⟩⟩
    have e1 := World.ownsRow.cellAt h' i (by omega)
    rw [Nat.zero_add, e1]
    have hi' : i < l.length := by omega
    exact ⟨l[i], h2 _ (List.getElem_mem hi'), by simp [u8Cells, hi']⟩

set_option maxHeartbeats 2000000 in
theorem more_any (a : Option Addr) (n cap : Nat) (w : World) (hn : n ≤ 140737488351232) (hC : CodeIn w w.heap.size a n) :
    Calls Try.prog 16 #[.slice a n cap, .int .i64 1] w fun e w' => ∃ a' cap', e = .returned (.slice a' (n + 2) cap') ∧ CodeIn w' w'.heap.size a' (n + 2) ∧ Below w.heap.size w w' := by
  obtain ⟨i0, hi, hz0, hz1, hz2⟩ := info_parts info5
  by_cases h0 : n = 0
  · subst h0
    clear hC
    have hend : ∀ v2 : Value, ∀ w2 : World, w2.ownsRow w.heap.size 5 1 v2 2 (u8Cells [1, 7]) → Below w.heap.size w w2 → ∃ a' cap', v2 = .slice a' 2 cap' ∧ CodeIn w2 w2.heap.size a' 2 ∧ Below w.heap.size w w2 := fun v2 w2 ho hb => by
      obtain ⟨a', cap', hv, hcode⟩ := row_code ho rfl (fun z hz => by
        simp at hz
        rcases hz with rfl | rfl <;> omega) (by omega)
      exact ⟨a', cap', hv, hcode, hb⟩
    have HE : Hid _ := hend
    clear hend
    cases a with
    | none =>
      go_enter Try.func16, Try.ntmps16
      go_wp2
      go_ret
      obtain ⟨a', cap', hv, hcode, hb⟩ := HE.out _ _ (row_two w) ((Below.refl _ w).alloc (Nat.le_refl _) _)
      first | exact ⟨a', cap', by rw [← hv]; rfl, hcode, hb⟩ | exact ⟨a', ⟨cap', by rw [← hv]; rfl⟩, hcode, hb⟩
    | some ad =>
      go_enter Try.func16, Try.ntmps16
      go_wp2_with (at_builtin; refine wpList_append_own _ rfl _ _ 31 rfl w.heap.size 5 i0 (.int .u8 0) 1 1 Try.underlying31 hi hz0 hz1 hz2 rfl (by decide) (.slice (some ⟨w.heap.size, 0, none⟩) 2 2) 2 (u8Cells [1, 7]) rfl (row_two w) ad 0 cap [] rfl rfl (fun j u hu => by simp at hu) (fun u hu => by simp at hu) (by unfold maxLen; omega) (by omega) (by simp) ?_; intro v' w2 hown hgrow hnil)
      go_ret
      obtain ⟨a', cap', hv, hcode, hb⟩ := HE.out v' w2 (by simpa using hown) (((Below.refl _ w).alloc (Nat.le_refl _) _).grown hgrow (by simp) (fun j e => by cases e; exact Nat.le_refl _))
      first | exact ⟨a', cap', by rw [← hv]; rfl, hcode, hb⟩ | exact ⟨a', ⟨cap', by rw [← hv]; rfl⟩, hcode, hb⟩
  · obtain ⟨b, off, rfl, hb, hz⟩ := hC.resolve_left h0
    obtain ⟨l, hl, h2, hc⟩ := code_list n hz
    have HL : Hid (l.length = n) := hl
    have H2 : Hid (∀ z ∈ l, z < 256) := h2
    have HCell : Hid (∀ j u, (u8Cells l)[j]? = some u → (w.alloc (.cells #[.int .u8 1, .int .u8 7] 5)).cell? ((⟨b, off, none⟩ : Addr).add j) = some u) := by
      intro j u hu
      have hj : j < l.length := by
        by_cases hj : j < l.length
        · exact hj
        · rw [List.getElem?_eq_none (by simp [u8Cells]; omega)] at hu
          cases hu
      have e1 : (⟨b, off, none⟩ : Addr).add j = ⟨b, off + j, none⟩ := by unfold Addr.add; split <;> simp_all
      rw [e1]
      refine (((Below.refl _ w).alloc (Nat.le_refl _) _).cell (p := ⟨b, off + j, none⟩) hb).trans ?_
      rw [hc j (by omega)]
      simp [u8Cells, hj] at hu
      simp [hj, hu]
    clear hz hc hl h2 hC
    go_enter Try.func16, Try.ntmps16
    go_wp2_with (at_builtin; refine wpList_append_own _ rfl _ _ 31 rfl w.heap.size 5 i0 (.int .u8 0) 1 1 Try.underlying31 hi hz0 hz1 hz2 rfl (by decide) (.slice (some ⟨w.heap.size, 0, none⟩) 2 2) 2 (u8Cells [1, 7]) rfl (row_two w) ⟨b, off, none⟩ n cap (u8Cells l) rfl (by rw [show (u8Cells l).length = l.length from by simp [u8Cells], HL.out]; omega) HCell.out u8Cells_one (by unfold maxLen; omega) (by omega) (by simp) ?_; intro v' w2 hown hgrow hnil)
    go_ret
    have hrow : w2.ownsRow w.heap.size 5 1 v' (n + 2) (u8Cells ([1, 7] ++ l)) := by
      rw [show n + 2 = 2 + n from by omega, show u8Cells ([1, 7] ++ l) = u8Cells [1, 7] ++ u8Cells l from by simp [u8Cells]]
      exact hown
    obtain ⟨a', cap', hv, hcode⟩ := row_code hrow (by have := HL.out; simp; omega) (fun z hz => by
      simp at hz
      rcases hz with rfl | rfl | hz
      · omega
      · omega
      · exact H2.out z hz) (by omega)
    exact ⟨a', cap', by rw [← hv]; rfl, hcode, ((Below.refl _ w).alloc (Nat.le_refl _) _).grown hgrow (by simp) (fun j e => by cases e; exact Nat.le_refl _)⟩
end Go.Proofs.Ytofbholpggkjcab

/- How a list of numbers that came in is read. -/
namespace Go.Proofs.Ytofbholpggkjcab
open Go.ChangeShapes Go.WideShapes Go.ChangeAt Go.RowKit

theorem own : ownKnob Try.prog.godebug = none := by kernel_rfl
theorem laidOut : laidOutB Try.prog = true := by kernel_rfl
theorem cells3 : Try.prog.cellsOf 3 = 1 := by kernel_rfl
theorem add_plain (b off n : Nat) : (⟨b, off, none⟩ : Addr).add n = ⟨b, off + n, none⟩ := by
  unfold Addr.add
  split <;> simp_all
theorem ints_list {w : World} {b off : Nat} : ∀ n, (∀ i, i < n → ∃ z : Int, w.cell? ⟨b, off + i, none⟩ = some (.int .i64 z)) → ∃ l : List Int, l.length = n ∧ ∀ i, i < n → w.cell? ⟨b, off + i, none⟩ = some (.int .i64 (intAt l i))
  | 0, _ => ⟨[], rfl, fun i hi => by omega⟩
  | n + 1, h => by
    obtain ⟨l, hl, hi⟩ := ints_list n (fun i hi => h i (by omega))
    obtain ⟨e, he⟩ := h n (by omega)
    refine ⟨l ++ [e], by simp [hl], fun i hi' => ?_⟩
    by_cases hin : i < n
    · have : intAt (l ++ [e]) i = intAt l i := by unfold intAt; simp [List.getElem?_append_left (by omega : i < l.length)]
      rw [this]; exact hi i hin
    · have : intAt (l ++ [e]) i = e := by unfold intAt; simp [show i = l.length by omega]
      rw [this, show i = n by omega]; exact he
set_option maxRecDepth 100000 in
theorem open_ints' {H : Type} {enc : TypeId × Value → H} {w : World} {b0 : Nat} {spare : Nat → Bool} {held : Bool} {r : Reach} {v : Value} {d : DataW H} {p : List MemPlace}
    (hv : Value.okWide Try.prog w r b0 22 v) (h : DataW.Trod enc Try.prog w 0 spare held 22 v d p) : ∃ l : List Int, IsI w v l := by
  obtain ⟨a0, len, cap, rfl⟩ := okWide_slice Try.underlying22 hv
  obtain ⟨fuel, hf⟩ := h
  rcases DataW.trod_slice Try.underlying22 hf with ⟨hcs, _⟩ | ⟨a, len', cap', elems, rest, n, _, hcs, _, hb, hl, hm, hlen, hel, _, _⟩
  · simp [Value.cells] at hcs
    obtain ⟨rfl, rfl, rfl⟩ := hcs
    exact ⟨[], _, _, rfl, Nat.le_refl _, by unfold maxLen; omega, .inl rfl⟩
  · simp [Value.cells] at hcs
    obtain ⟨rfl, rfl, rfl⟩ := hcs
    by_cases h0 : len = 0
    · subst h0
      exact ⟨[], _, _, rfl, hl, hm, .inl rfl⟩
    · obtain ⟨b, off, spot⟩ := a
      have hs : spot = none := by
        have h1 := hel 0 (by omega)
        rw [cells3, List.getElem?_eq_getElem (by omega)] at h1
        obtain ⟨cs, hc, ht⟩ := Option.bind_eq_some_iff.1 h1
        obtain ⟨t, rfl, _⟩ := DataW.trod_int Try.underlying3 ht
        have c0 := (World.cells?_some hc).2.2 0 (by omega)
        simpa [Addr.add] using World.cell?_spot c0
      subst hs
      have each : ∀ i, i < len → ∃ z : Int, w.cell? ⟨b, off + i, none⟩ = some (.int .i64 z) ∧ b < w.heap.size := by
        intro i hi
        have h1 := hel i hi
        rw [cells3, List.getElem?_eq_getElem (by omega), add_plain] at h1
        obtain ⟨cs, hc, ht⟩ := Option.bind_eq_some_iff.1 h1
        obtain ⟨t, rfl, _, hw⟩ := DataW.trod_int Try.underlying3 ht
        have hblk : b < w.heap.size := World.cells?_block hc (by omega)
        obtain ⟨_, _, hcell⟩ := World.cells?_some hc
        have h2 := hcell 0 (by omega)
        simp only [add_plain] at h2
        exact ⟨t, by simpa using h2, hblk⟩
      obtain ⟨_, _, hblk⟩ := each 0 (by omega)
      obtain ⟨l, rfl, hi⟩ := ints_list (w := w) (b := b) (off := off) len (fun i hi => by
        obtain ⟨e, he, _⟩ := each i hi
        exact ⟨e, he⟩)
      exact ⟨l, _, _, rfl, hl, hm, .inr ⟨b, off, rfl, hblk, hi⟩⟩
end Go.Proofs.Ytofbholpggkjcab

/- How a code that came in is read: bytes, of which there are no more than the form's own reach. -/
namespace Go.Proofs.Ytofbholpggkjcab
open Go.ChangeShapes Go.WideShapes Go.ChangeAt Go.RowKit

theorem cells5 : Try.prog.cellsOf 5 = 1 := by kernel_rfl
theorem bytes5 : Try.prog.bytesOf 5 = 1 := by kernel_rfl
set_option maxRecDepth 100000 in
theorem open_code {H : Type} {enc : TypeId × Value → H} {w : World} {b0 : Nat} {spare : Nat → Bool} {held : Bool} {r : Reach} {v : Value} {d : DataW H} {p : List MemPlace}
    (hv : Value.okWide Try.prog w r b0 31 v) (h : DataW.Trod enc Try.prog w 0 spare held 31 v d p)
    (hs : ∀ elems spare, d = .slice elems spare → (elems.length + spare.length) * Try.prog.bytesOf 5 ≤ reachBytes) : ∃ a n cap, v = .slice a n cap ∧ n ≤ 140737488351232 ∧ CodeIn w w.heap.size a n := by
  obtain ⟨a0, len, cap, rfl⟩ := okWide_slice Try.underlying31 hv
  obtain ⟨fuel, hf⟩ := h
  rcases DataW.trod_slice Try.underlying31 hf with ⟨hcs, _⟩ | ⟨a, len', cap', elems, rest, n, _, hcs, hx, hb, hl, hm, hlen, hel, _, _⟩
  · simp [Value.cells] at hcs
    obtain ⟨rfl, rfl, rfl⟩ := hcs
    exact ⟨_, _, _, rfl, by omega, .inl rfl⟩
  · simp [Value.cells] at hcs
    obtain ⟨rfl, rfl, rfl⟩ := hcs
    have hd := hs _ _ (congrArg Prod.fst hx)
    rw [bytes5] at hd
    simp only [List.length_map] at hd
    have hr : reachBytes = 140737488351232 := rfl
    refine ⟨_, _, _, rfl, by omega, ?_⟩
    by_cases h0 : len = 0
    · exact .inl h0
    · obtain ⟨b, off, spot⟩ := a
      have hs : spot = none := by
        have h1 := hel 0 (by omega)
        rw [cells5, List.getElem?_eq_getElem (by omega)] at h1
        obtain ⟨cs, hc, ht⟩ := Option.bind_eq_some_iff.1 h1
        obtain ⟨t, rfl, _⟩ := DataW.trod_int Try.underlying5 ht
        have c0 := (World.cells?_some hc).2.2 0 (by omega)
        simpa [Addr.add] using World.cell?_spot c0
      subst hs
      have each : ∀ i, i < len → ∃ z : Nat, z < 256 ∧ w.cell? ⟨b, off + i, none⟩ = some (.int .u8 (z : Int)) ∧ b < w.heap.size := by
        intro i hi
        have h1 := hel i hi
        rw [cells5, List.getElem?_eq_getElem (by omega), add_plain] at h1
        obtain ⟨cs, hc, ht⟩ := Option.bind_eq_some_iff.1 h1
        obtain ⟨t, rfl, _, hw⟩ := DataW.trod_int Try.underlying5 ht
        have hblk : b < w.heap.size := World.cells?_block hc (by omega)
        obtain ⟨_, _, hcell⟩ := World.cells?_some hc
        have h2 := hcell 0 (by omega)
        simp only [add_plain] at h2
        have hmin : IntKind.u8.min = 0 := rfl
        have hmax : IntKind.u8.max = 255 := rfl
        simp only [Lit.wf, Bool.and_eq_true, decide_eq_true_eq] at hw
        refine ⟨t.toNat, by omega, ?_, hblk⟩
        rw [show ((t.toNat : Nat) : Int) = t from by omega]
        simpa using h2
      obtain ⟨_, _, _, hblk⟩ := each 0 (by omega)
      exact .inr ⟨b, off, rfl, hblk, fun i hi => by obtain ⟨z, h1, h2, _⟩ := each i hi; exact ⟨z, h1, h2⟩⟩
end Go.Proofs.Ytofbholpggkjcab

