/- PTo, PTr -/
import Derived.Test.YtnccenbkpocjgaaGreatExactHearLPOwn
import Derived.Laws.Slices
/- The specification's copy of what was done; rows of data as sources of an append, and cut. -/
namespace Go.Proofs.YtnccenbkpocjgaaGreat
open Go.RowKit
theorem IsD.cells {w : World} {x : Value} {c n : Nat} {f : Nat → Dat} (h : IsD w x (.row c n f)) : ∃ cs, SrcC w x c n cs ∧ ∀ j, j < n * c → IsD w (nthV cs j) (f j) := by
 obtain ⟨a, cap, rfl, h1, h2, h⟩ := IsD.parts (c := c) (n := n) h
 rcases h with rfl | ⟨b, off, rfl, hb, hc⟩
 ·exact ⟨[], ⟨by simp, a, cap, rfl, .inl rfl⟩, fun j hj => by omega⟩
 ·refine ⟨(List.range (n * c)).map (fun j => ((w.cell? ⟨b, off + j, none⟩).getD (.int .i64 0))), ⟨by simp, some ⟨b, off, none⟩, cap, rfl, .inr ⟨b, off, rfl, hb, fun j hj => ?_⟩⟩, fun j hj => ?_⟩
  ·obtain ⟨u, hu, _⟩ := hc j hj
   simp [hj, hu]
  ·obtain ⟨u, hu, hd⟩ := hc j hj
   have : nthV ((List.range (n * c)).map (fun j => ((w.cell? ⟨b, off + j, none⟩).getD (.int .i64 0)))) j = u := by
    unfold nthV
    simp [hj, hu]
   rw [this]
   exact hd
theorem Ps.one {w : World} {u : Value} {p : Ps} {r : Nat} (h : IsD w u (p.cell r)) : u.oneCell' = true := by
 unfold Ps.cell at h
 split at h
 all_goals first
  | (obtain rfl := h.val_eq; rfl)
  | (obtain ⟨a, c, rfl, _⟩ := IsD.len h; rfl)
end Go.Proofs.YtnccenbkpocjgaaGreat

/- What was done, cut in two. -/
namespace Go.Proofs.YtnccenbkpocjgaaGreat
open Go.RowKit
theorem psAt_take {l : List Ps} {k j : Nat} (h : j < k) : psAt (l.take k) j = psAt l j := by
 unfold psAt
 rw [List.getD_eq_getElem?_getD, List.getD_eq_getElem?_getD, List.getElem?_take_of_lt h]
theorem run_cutFrom (a : Option Addr) (n cap k : Nat) (hk : k ≤ n) (w : World) : (Instr.sliceAt 30 (.slice a n cap) (some (.int .i64 (k : Int))) none none).run Tryz.prog w = .ok (sliced a k n cap 12) w := by
 obtain ⟨i0, hi, hz0, hz1, hz2⟩ := info_parts infoPQ
 have hu : Tryz.prog.underlying 30 = some (.slice (Tryz.prog.elem 30)) := by kernel_rfl
 have he : Tryz.prog.elem 30 = 126 := by kernel_rfl
 rw [run_sliceAt_slice (h := hu), run_slice_l (ht := hu) (h0 := by omega) (h1 := by omega), he]
 simp [sizeOf, typeInfo, hi, hz1]
theorem run_cutTo (a : Option Addr) (n cap k : Nat) (hk : k ≤ cap) (w : World) : (Instr.sliceAt 30 (.slice a n cap) none (some (.int .i64 (k : Int))) none).run Tryz.prog w = .ok (sliced a 0 k cap 12) w := by
 obtain ⟨i0, hi, hz0, hz1, hz2⟩ := info_parts infoPQ
 have hu : Tryz.prog.underlying 30 = some (.slice (Tryz.prog.elem 30)) := by kernel_rfl
 have he : Tryz.prog.elem 30 = 126 := by kernel_rfl
 rw [run_sliceAt_slice (h := hu), run_slice_h (ht := hu) (h0 := by omega) (h2 := by omega), he]
 simp [sizeOf, typeInfo, hi, hz1]
end Go.Proofs.YtnccenbkpocjgaaGreat

