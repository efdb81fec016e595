/- How a code that came in is read: bytes, of which there are no more than the form's own reach. -/
import Derived.Test.YtbljfphdghfkfaaGreatDoorModelsCardG17
import Derived.Test.YtbljfphdghfkfaaGreatDoorModelsCardG19
import Derived.ProofKit
import Derived.ChangeOld
import Derived.OpenShut
import Derived.SizedLaws
namespace Go.Proofs.YtbljfphdghfkfaaGreatDoor
open Go.ChangeShapes Go.WideShapes Go.ChangeAt Go.RowKit
theorem cells5 : Tryz.prog.cellsOf 5 = 1 := by kernel_rfl
theorem bytes5 : Tryz.prog.bytesOf 5 = 1 := by kernel_rfl
set_option maxRecDepth 100000 in
theorem open_code {H : Type} {enc : TypeId × Value → H} {w : World} {b0 : Nat} {spare : Nat → Bool} {held : Bool} {r : Reach} {v : Value} {d : DataW H} {p : List MemPlace}
  (hv : Value.okWide Tryz.prog w r b0 22 v) (h : DataW.Trod enc Tryz.prog w 0 spare held 22 v d p)
  (hs : ∀ elems spare, d = .slice elems spare → (elems.length + spare.length) * Tryz.prog.bytesOf 5 ≤ reachBytes) : ∃ a n cap, v = .slice a n cap ∧ n ≤ 140737488351232 ∧ CodeIn w w.heap.size a n := by
 obtain ⟨a0, len, cap, rfl⟩ := okWide_slice Tryz.underlying22 hv
 obtain ⟨fuel, hf⟩ := h
 rcases DataW.trod_slice Tryz.underlying22 hf with ⟨hcs, _⟩ | ⟨a, len', cap', elems, rest, n, _, hcs, hx, hb, hl, hm, hlen, hel, _, _⟩
 ·simp [Value.cells] at hcs
  obtain ⟨rfl, rfl, rfl⟩ := hcs
  exact ⟨_, _, _, rfl, by omega, .inl rfl⟩
 ·simp [Value.cells] at hcs
  obtain ⟨rfl, rfl, rfl⟩ := hcs
  have hd := hs _ _ (congrArg Prod.fst hx)
  rw [bytes5] at hd
  simp only [List.length_map] at hd
  have hr : reachBytes = 140737488351232 := rfl
  refine ⟨_, _, _, rfl, by omega, ?_⟩
  by_cases h0 : len = 0
  ·exact .inl h0
  ·obtain ⟨b, off, spot⟩ := a
   have hs : spot = none := by
    have h1 := hel 0 (by omega)
    rw [cells5, List.getElem?_eq_getElem (by omega)] at h1
    obtain ⟨cs, hc, ht⟩ := Option.bind_eq_some_iff.1 h1
    obtain ⟨t, rfl, _⟩ := DataW.trod_int Tryz.underlying5 ht
    have c0 := (World.cells?_some hc).2.2 0 (by omega)
    simpa [Addr.add] using World.cell?_spot c0
   subst hs
   have each : ∀ i, i < len → ∃ z : Nat, z < 256 ∧ w.cell? ⟨b, off + i, none⟩ = some (.int .u8 (z : Int)) ∧ b < w.heap.size := by
    intro i hi
    have h1 := hel i hi
    rw [cells5, List.getElem?_eq_getElem (by omega), add_plain] at h1
    obtain ⟨cs, hc, ht⟩ := Option.bind_eq_some_iff.1 h1
    obtain ⟨t, rfl, _, hw⟩ := DataW.trod_int Tryz.underlying5 ht
    have hblk : b < w.heap.size := World.cells?_block hc (by omega)
    obtain ⟨_, _, hcell⟩ := World.cells?_some hc
    have h2 := hcell 0 (by omega)
    simp only [add_plain] at h2
    have hmin : IntKind.u8.min = 0 := rfl
    have hmax : IntKind.u8.max = 255 := rfl
    simp only [Lit.wf, Bool.and_eq_true, decide_eq_true_eq] at hw
    refine ⟨t.toNat, by omega, ?_, hblk⟩
    rw [show ((t.toNat : Nat) : Int) = t from by omega]
    simpa using h2
   obtain ⟨_, _, _, hblk⟩ := each 0 (by omega)
   exact .inr ⟨b, off, rfl, hblk, fun i hi => by obtain ⟨z, h1, h2, _⟩ := each i hi; exact ⟨z, h1, h2⟩⟩
end Go.Proofs.YtbljfphdghfkfaaGreatDoor
