/- PTo, PTr -/
import Derived.Test.YtdcnimdhfhbdmaaExactBackLPOwn
import Derived.Laws.Slices
/- The specification's copy of what was done; rows of data as sources of an append, and cut. -/
namespace Go.Proofs.Ytdcnimdhfhbdmaa
open Go.RowKit
theorem IsD.none_row (w : World) (c : Nat) (f : Nat → Dat) : IsD w (.slice none 0 0) (.row c 0 f) := IsD.of_parts (Nat.le_refl _) (Nat.zero_le _) (.inl rfl)
set_option maxRecDepth 100000 in
set_option maxHeartbeats 4000000 in
theorem ownPast_any (x : Value) (l : List Ps) (w : World) (hw : (pastsD l).wt ≤ 1048577) (h : IsD w x (pastsD l)) :
    Calls Try.prog 29 #[x] w fun r w' => ∃ y, r = .returned y ∧ Below w.heap.size w w' ∧ OwnD w' (fun k => w.heap.size ≤ k ∧ k < w'.heap.size) y (pastsD l) := by
  have HD : Hid (IsPart w (.agg #[.int .i64 0, .slice none 0 0, .int .i64 0, .int .i64 0, x, .slice none 0 0, .slice none 0 0]) ⟨0, ⟨[], 0, 0⟩, l, [], []⟩) := ⟨_, _, _, _, rfl, IsD.none_row _ _ _, h, IsD.none_row _ _ _, IsD.none_row _ _ _⟩
  have HW : Hid ((⟨0, ⟨[], 0, 0⟩, l, [], []⟩ : Pa).wt ≤ 1048577) := by
    show (⟨0, ⟨[], 0, 0⟩, l, [], []⟩ : Pa).wt ≤ 1048577
    unfold Pa.wt
    have e0 := ints_wt []
    have e1 := evs_wt []
    simp at e0 e1 ⊢
    omega
  obtain ⟨a4, c4, rfl, _⟩ := IsD.len h
  clear h hw
  go_enter Try.func29, Try.ntmps29
  go_wp2_with fail
  refine (l4own_any _ _ w HW.out HD.out).mono ?_
  rintro e w1 ⟨y, rfl, hb, hF⟩
  have HB : Hid (Below w.heap.size w w1) := hb
  obtain ⟨A1, A4, A5, A6, u1, u4, u5, u6, rfl, h1, h4, h5, h6, d1, d4, d5, d6⟩ := hF
  have HO : Hid (OwnD w1 (fun k => w.heap.size ≤ k ∧ k < w1.heap.size) u4 (pastsD l)) := h4.mono (fun k hk => (d4 k hk).1)
  obtain ⟨b1, e1, rfl, _⟩ := OwnD.parts (c := 1) (n := 0) h1
  obtain ⟨b4, e4, rfl, _⟩ := OwnD.parts (c := 12) (n := l.length) h4
  obtain ⟨b5, e5, rfl, _⟩ := OwnD.parts (c := 7) (n := 0) h5
  obtain ⟨b6, e6, rfl, _⟩ := OwnD.parts (c := 1) (n := 0) h6
  clear hb h1 h4 h5 h6 d1 d4 d5 d6
  have hfd : ∀ w : World, (Instr.field 36 (.agg #[.int .i64 0, .slice b1 0 e1, .int .i64 0, .int .i64 0, .slice b4 l.length e4, .slice b5 0 e5, .slice b6 0 e6]) 2).run Try.prog w = .ok (.slice b4 l.length e4) w := fun _ => by kernel_rfl
  go_wp2
  go_ret
  exact ⟨_, rfl, HB.out, HO.out⟩
/- A row of data as a source: its cells. -/
theorem IsD.cells {w : World} {x : Value} {c n : Nat} {f : Nat → Dat} (h : IsD w x (.row c n f)) : ∃ cs, SrcC w x c n cs ∧ ∀ j, j < n * c → IsD w (nthV cs j) (f j) := by
  obtain ⟨a, cap, rfl, h1, h2, h⟩ := IsD.parts (c := c) (n := n) h
  rcases h with rfl | ⟨b, off, rfl, hb, hc⟩
  · exact ⟨[], ⟨by simp, a, cap, rfl, .inl rfl⟩, fun j hj => by omega⟩
  · refine ⟨(List.range (n * c)).map (fun j => ((w.cell? ⟨b, off + j, none⟩).getD (.int .i64 0))), ⟨by simp, some ⟨b, off, none⟩, cap, rfl, .inr ⟨b, off, rfl, hb, fun j hj => ?_⟩⟩, fun j hj => ?_⟩
    · obtain ⟨u, hu, _⟩ := hc j hj
      simp [hj, hu]
    · obtain ⟨u, hu, hd⟩ := hc j hj
      have : nthV ((List.range (n * c)).map (fun j => ((w.cell? ⟨b, off + j, none⟩).getD (.int .i64 0)))) j = u := by
        unfold nthV
        simp [hj, hu]
      rw [this]
      exact hd
/- Cells of what was done are one cell each. -/
theorem Ps.one {w : World} {u : Value} {p : Ps} {r : Nat} (h : IsD w u (p.cell r)) : u.oneCell' = true := by
  unfold Ps.cell at h
  split at h
  all_goals first
    | (obtain rfl := h.val_eq; rfl)
    | (obtain ⟨a, c, rfl, _⟩ := IsD.len h; rfl)
/- The row that came of them reads so. -/
theorem isD_row {w : World} {B : Nat} {T : TypeId} {c n : Nat} {v : Value} {cs : List Value} {f : Nat → Dat} (ho : w.ownsRow B T c v n cs) (hd : ∀ j, j < n * c → IsD w (nthV cs j) (f j)) : IsD w v (.row c n f) := by
  obtain ⟨hl, ⟨rfl, rfl⟩ | ⟨g, cap, cur, rfl, hg, hc, h1, h2, h3, h4⟩⟩ := ho
  · exact IsD.none_row _ _ _
  · refine IsD.of_parts h1 h2 (.inr ⟨g, 0, rfl, (Array.getElem?_eq_some_iff.1 hc).1, fun j hj => ⟨nthV cs j, ?_, hd j hj⟩⟩)
    have hjc : j < cs.length := by omega
    have h5 : w.cell? ⟨g, 0 + j, none⟩ = cs[j]? := by
      rw [Nat.zero_add, ← h4, List.getElem?_take_of_lt hj]
      simp [World.cell?, hc]
    rw [h5, List.getElem?_eq_getElem hjc]
    simp [nthV, hjc]
end Go.Proofs.Ytdcnimdhfhbdmaa

/- What was done, cut in two. -/
namespace Go.Proofs.Ytdcnimdhfhbdmaa
open Go.RowKit
theorem psAt_drop (l : List Ps) (k j : Nat) : psAt (l.drop k) j = psAt l (k + j) := by
  unfold psAt
  rw [List.getD_eq_getElem?_getD, List.getD_eq_getElem?_getD, List.getElem?_drop]
theorem psAt_take {l : List Ps} {k j : Nat} (h : j < k) : psAt (l.take k) j = psAt l j := by
  unfold psAt
  rw [List.getD_eq_getElem?_getD, List.getD_eq_getElem?_getD, List.getElem?_take_of_lt h]
theorem pasts_drop {w : World} {a : Option Addr} {cap k : Nat} {l : List Ps} (h : IsD w (.slice a l.length cap) (pastsD l)) (hk : k ≤ l.length) : IsD w (sliced a k l.length cap 12) (pastsD (l.drop k)) := by
  obtain ⟨a', cap', he, h1, h2, h⟩ := IsD.parts (c := 12) (n := l.length) h
  obtain ⟨rfl, rfl⟩ : a = a' ∧ cap = cap' := by simpa using he
  unfold sliced pastsD
  rw [List.length_drop]
  refine IsD.of_parts (by omega) (by omega) ?_
  by_cases hn : l.length - k = 0
  · exact .inl hn
  · refine .inr ?_
    obtain ⟨b, off, rfl, hb, hc⟩ := h.resolve_left (by omega)
    rw [if_neg (by omega)]
    refine ⟨b, off + k * 12, by simp [Addr.add_lit], hb, fun j hj => ?_⟩
    obtain ⟨u, hu, hd⟩ := hc (k * 12 + j) (by omega)
    refine ⟨u, by rw [Nat.add_assoc]; exact hu, ?_⟩
    have e : pastsD_f (l.drop k) j = pastsD_f l (k * 12 + j) := by
      show (psAt (l.drop k) (j / 12)).cell (j % 12) = (psAt l ((k * 12 + j) / 12)).cell ((k * 12 + j) % 12)
      rw [psAt_drop, show (k * 12 + j) / 12 = k + j / 12 by omega, show (k * 12 + j) % 12 = j % 12 by omega]
    rw [e]
    exact hd
theorem pasts_take {w : World} {a : Option Addr} {cap k : Nat} {l : List Ps} (h : IsD w (.slice a l.length cap) (pastsD l)) (hk : k ≤ l.length) : IsD w (sliced a 0 k cap 12) (pastsD (l.take k)) := by
  obtain ⟨a', cap', he, h1, h2, h⟩ := IsD.parts (c := 12) (n := l.length) h
  obtain ⟨rfl, rfl⟩ : a = a' ∧ cap = cap' := by simpa using he
  unfold sliced pastsD
  rw [List.length_take, Nat.min_eq_left hk]
  refine IsD.of_parts (by omega) (by omega) ?_
  by_cases hn : k = 0
  · exact .inl (by omega)
  · refine .inr ?_
    obtain ⟨b, off, rfl, hb, hc⟩ := h.resolve_left (by omega)
    rw [if_neg (by omega)]
    refine ⟨b, off, by simp [Addr.add_lit], hb, fun j hj => ?_⟩
    obtain ⟨u, hu, hd⟩ := hc j (by omega)
    refine ⟨u, hu, ?_⟩
    have e : pastsD_f (l.take k) j = pastsD_f l j := by
      show (psAt (l.take k) (j / 12)).cell (j % 12) = _
      rw [psAt_take (by omega)]
      rfl
    rw [e]
    exact hd
theorem run_cutFrom (a : Option Addr) (n cap k : Nat) (hk : k ≤ n) (w : World) : (Instr.sliceAt 33 (.slice a n cap) (some (.int .i64 (k : Int))) none none).run Try.prog w = .ok (sliced a k n cap 12) w := by
  obtain ⟨i0, hi, hz0, hz1, hz2⟩ := info_parts infoPQ
  have hu : Try.prog.underlying 33 = some (.slice (Try.prog.elem 33)) := by kernel_rfl
  have he : Try.prog.elem 33 = 67 := by kernel_rfl
  rw [run_sliceAt_slice (h := hu), run_slice_l (ht := hu) (h0 := by omega) (h1 := by omega), he]
  simp [sizeOf, typeInfo, hi, hz1]
theorem run_cutTo (a : Option Addr) (n cap k : Nat) (hk : k ≤ cap) (w : World) : (Instr.sliceAt 33 (.slice a n cap) none (some (.int .i64 (k : Int))) none).run Try.prog w = .ok (sliced a 0 k cap 12) w := by
  obtain ⟨i0, hi, hz0, hz1, hz2⟩ := info_parts infoPQ
  have hu : Try.prog.underlying 33 = some (.slice (Try.prog.elem 33)) := by kernel_rfl
  have he : Try.prog.elem 33 = 67 := by kernel_rfl
  rw [run_sliceAt_slice (h := hu), run_slice_h (ht := hu) (h0 := by omega) (h2 := by omega), he]
  simp [sizeOf, typeInfo, hi, hz1]
end Go.Proofs.Ytdcnimdhfhbdmaa

