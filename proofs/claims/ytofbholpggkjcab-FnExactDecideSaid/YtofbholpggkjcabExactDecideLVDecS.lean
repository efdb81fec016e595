/- Vectors: both Decide. -/
import Derived.Test.YtofbholpggkjcabExactDecideG02
namespace Go.Proofs.Ytofbholpggkjcab
open Go.RowKit
def decB (l : List Int) (d v : Int) : Bool := vok l && (decide (0 ≤ d) && decide (d ≤ 3)) && (decide (0 ≤ v) && decide (v ≤ 1))
def decF (l : List Int) (d v : Int) : Bool := decB l d v && decide (intAt l d.toNat = -1)
def decR (l : List Int) (d v : Int) : List Int := if decB l d v = true then (if intAt l d.toNat = -1 then l.set d.toNat v else l) else []
theorem decB_iff {l : List Int} {d v : Int} : decB l d v = true ↔ vok l = true ∧ 0 ≤ d ∧ d ≤ 3 ∧ 0 ≤ v ∧ v ≤ 1 := by
  simp [decB, and_assoc]
theorem dec_no {l : List Int} {d v : Int} (h : decB l d v = false) : decF l d v = false ∧ decR l d v = [] := by simp [decF, decR, h]
theorem decR_length (l : List Int) (d v : Int) : (decR l d v).length ≤ l.length := by
  unfold decR
  split
  · split
    · rw [List.length_set]; exact Nat.le_refl _
    · exact Nat.le_refl _
  · exact Nat.zero_le _
theorem rowI_empty (w : World) : (w.alloc (.cells #[] 3)).ownsRow w.heap.size 3 1 (.slice (some ⟨w.heap.size, 0, none⟩) 0 0) 0 [] :=
  ⟨rfl, .inr ⟨w.heap.size, 0, #[], rfl, Nat.le_refl _, (MapKept.heap_alloc w _).1, Nat.le_refl _, Nat.zero_le _, rfl, rfl⟩⟩
theorem OwnI.four {B : Nat} {w : World} {x : Value} {l : List Int} (h : OwnI B w x l) (hl : l.length = 4) : ∃ g cap, x = .slice (some ⟨g, 0, none⟩) 4 cap ∧ 4 ≤ cap ∧ cap ≤ maxLen ∧ B ≤ g ∧ RowI w g l := by
  obtain ⟨a, cap, rfl, h1, h2, h⟩ := h
  obtain ⟨g, rfl, hg, hf, hr⟩ := h.resolve_left (by rintro rfl; simp at hl)
  exact ⟨g, cap, by rw [hl], by omega, h2, hg, hr.1, fun j hj => ⟨by have := hr.2 j hj; rwa [Nat.zero_add] at this, hf j hj⟩⟩
theorem RowI.put {w : World} {g m : Nat} {l : List Int} (h : RowI w g l) (hm : m < l.length) (v : Int) : RowI (w.setCell ⟨g, m, none⟩ (.int .i64 v)) g (l.set m v) := by
  have e1 : w.setCell ⟨g, m, none⟩ (.int .i64 v) = w.setCells g m [.int .i64 v] := rfl
  refine ⟨by simpa using h.1, fun j hj => ⟨?_, ?_⟩⟩
  · have hj' : j < l.length := by simpa using hj
    by_cases e : j = m
    · subst e
      have h0 := World.cell?_setCells_in g [.int .i64 v] j w (fun i hi => by
        obtain rfl : i = 0 := by simpa using hi
        rw [Nat.add_zero, (h.2 j hm).1]; rfl) 0 (by simp)
      rw [e1]
      simpa [intAt, hm] using h0
    · rw [e1, World.cell?_setCells_out g _ m w ⟨g, j, none⟩ (fun _ _ => by simp; omega), (h.2 j hj').1]
      simp [intAt, Ne.symm e]
  · rw [e1, World.frozen?_setCells]; exact (h.2 j (by simpa using hj)).2
theorem RowI.ownC {w : World} {g cap : Nat} {l : List Int} (h : RowI w g l) (hl : l.length = 4) (hc : 4 ≤ cap) (hm : cap ≤ maxLen) {B : Nat} (hB : B ≤ g) : OwnI B w (.slice (some ⟨g, 0, none⟩) 4 cap) l :=
  ⟨_, _, by rw [hl], by omega, hm, .inr ⟨g, rfl, hB, fun j hj => (h.2 j hj).2, h.1, fun i hi => by rw [Nat.zero_add]; exact (h.2 i hi).1⟩⟩
set_option maxHeartbeats 1000000 in
theorem with_any (b off cap m : Nat) (v : Int) (l : List Int) (w : World) (hl : l.length = 4) (hm : m < 4) (hI : IntsAt w b off l) :
    Calls Try.prog 22 #[.slice (some ⟨b, off, none⟩) 4 cap, .int .i64 m, .int .i64 v] w fun e w' => ∃ x, e = .returned x ∧ OwnI w.heap.size w' x (l.set m v) ∧ Below w.heap.size w w' := by
  obtain ⟨i0, hi, hz0, hz1, hz2⟩ := info_parts info3
  have HI : Hid (IntsAt (w.alloc (.cells #[] 3)) b off l) := hI.below ((Below.refl _ w).alloc (Nat.le_refl _) _) hI.1
  have HL : Hid (l.length = 4) := hl
  have hmi : (m : Int) < 4 := by omega
  clear hI hl
  go_enter Try.func22, Try.ntmps22
  go_wp2_with (at_builtin; refine wpList_append_own _ rfl _ _ 22 rfl w.heap.size 3 i0 _ 1 8 Try.underlying22 hi hz0 hz1 hz2 rfl (by decide) (.slice (some ⟨w.heap.size, 0, none⟩) 0 0) 0 [] rfl (rowI_empty w) ⟨b, off, none⟩ 4 cap (intCells l) rfl (by rw [intCells_length, HL.out]) HI.out.cells (intCells_one l) (by unfold maxLen; omega) (by omega) (by simp) ?_; intro v' w1 hown hgrow hnil; have hB1 : Below w.heap.size w w1 := ((Below.refl _ w).alloc (Nat.le_refl _) _).grown hgrow (by simp) (fun k e => by cases e; exact Nat.le_refl _); have hO : OwnI w.heap.size w1 v' l := OwnI.of_row (by rw [HL.out]; simpa using hown); obtain ⟨g, cap', hv', hc1, hc2, hBg, hR⟩ := hO.four HL.out; subst hv'; have HR : Hid (RowI w1 g l) := hR; have HB1 : Hid (Below w.heap.size w w1) := hB1; have f0 := (hR.2 m (by rw [HL.out]; exact hm)).1; have f1 := (hR.2 m (by rw [HL.out]; exact hm)).2; clear hown hgrow hnil hO hR hB1)
  go_ret
  exact ⟨_, rfl, (HR.out.put (by rw [HL.out]; exact hm) v).ownC (by simp [HL.out]) hc1 hc2 hBg, HB1.out.setCell (p := ⟨g, m, none⟩) hBg _⟩

set_option maxHeartbeats 2000000 in
theorem sDecide_any (x : Value) (d v : Int) (l : List Int) (w : World) (hl : l.length ≤ 1048576) (h : IsI w x l) :
    Calls Try.prog 10 #[x, .int .i64 d, .int .i64 v] w fun e w' => ∃ u, e = .returned (.tuple #[u, .bool (decF l d v)]) ∧ OwnI w.heap.size w' u (decR l d v) ∧ Below w.heap.size w w' := by
  have H : Hid (Calls Try.prog 19 #[x] w fun e w' => e = .returned (.bool (vok l)) ∧ w' = w) := sVok_any x l w (by omega) h
  cases hB : decB l d v with
  | false =>
    have HN : Hid (decF l d v = false ∧ decR l d v = []) := dec_no hB
    cases hv : vok l with
    | false =>
      rw [hv] at H
      clear h hB
      go_enter Try.func10, Try.ntmps10
      go_wp2_with fail
      refine H.out.mono ?_
      rintro e w1 ⟨rfl, hw⟩
      obtain rfl := hw.symm
      go_wp2
      go_ret2
      exact ⟨.slice none 0 0, by rw [HN.out.1]; rfl, by rw [HN.out.2]; exact OwnI.nil _ _, Below.refl _ _⟩
    | true =>
      rw [hv] at H
      have hb : ¬ (0 ≤ d ∧ d ≤ 3 ∧ 0 ≤ v ∧ v ≤ 1) := fun h => by have := decB_iff.2 ⟨hv, h⟩; rw [hB] at this; cases this
      clear h hB
      by_cases d0 : d < 0
      · clear hb
        go_enter Try.func10, Try.ntmps10
        go_wp2_with fail
        refine H.out.mono ?_
        rintro e w1 ⟨rfl, hw⟩
        obtain rfl := hw.symm
        go_wp2
        go_ret2
        exact ⟨.slice none 0 0, by rw [HN.out.1]; rfl, by rw [HN.out.2]; exact OwnI.nil _ _, Below.refl _ _⟩
      · by_cases d1 : 4 ≤ d
        · clear hb
          go_enter Try.func10, Try.ntmps10
          go_wp2_with fail
          refine H.out.mono ?_
          rintro e w1 ⟨rfl, hw⟩
          obtain rfl := hw.symm
          go_wp2
          go_ret2
          exact ⟨.slice none 0 0, by rw [HN.out.1]; rfl, by rw [HN.out.2]; exact OwnI.nil _ _, Below.refl _ _⟩
        · by_cases d2 : v < 0
          · clear hb
            go_enter Try.func10, Try.ntmps10
            go_wp2_with fail
            refine H.out.mono ?_
            rintro e w1 ⟨rfl, hw⟩
            obtain rfl := hw.symm
            go_wp2
            go_ret2
            exact ⟨.slice none 0 0, by rw [HN.out.1]; rfl, by rw [HN.out.2]; exact OwnI.nil _ _, Below.refl _ _⟩
          · have d3 : 1 < v := by omega
            clear hb
            go_enter Try.func10, Try.ntmps10
            go_wp2_with fail
            refine H.out.mono ?_
            rintro e w1 ⟨rfl, hw⟩
            obtain rfl := hw.symm
            go_wp2
            go_ret2
            exact ⟨.slice none 0 0, by rw [HN.out.1]; rfl, by rw [HN.out.2]; exact OwnI.nil _ _, Below.refl _ _⟩
  | true =>
    obtain ⟨hv, h0, h1, h2, h3⟩ := decB_iff.1 hB
    obtain ⟨m, rfl⟩ : ∃ m : Nat, d = (m : Int) := ⟨d.toNat, by omega⟩
    have hm : m < 4 := by omega
    rw [hv] at H
    obtain ⟨b, off, cap, rfl, hI⟩ := h.four (vok_len4 hv)
    have HI : Hid (IntsAt w b off l) := hI
    have HL : Hid (l.length = 4) := vok_len4 hv
    have f0 := hI.2 m (by rw [HL.out]; exact hm)
    have hz1 := (vok_at hv m hm).1
    obtain ⟨z, hz⟩ : ∃ z, z = intAt l m := ⟨_, rfl⟩
    rw [← hz] at f0 hz1
    have HZ : Hid (z = intAt l m) := hz
    have c1 : ¬ (m : Int) < 0 := by omega
    have c2 : ¬ (4 : Int) ≤ (m : Int) := by omega
    have c3 : ¬ v < 0 := by omega
    have c4 : ¬ (1 : Int) < v := by omega
    have c5 : (m : Int) < 4 := by omega
    have HQ : Hid (decB l m v = true) := hB
    clear h hI hv hB hz h0 h1 h2 h3
    by_cases hz0 : 0 ≤ z
    · have HD : Hid (decF l m v = false ∧ decR l m v = l) := by
        have hne : ¬ intAt l m = -1 := by rw [← HZ.out]; omega
        show _ ∧ _
        simp [decF, decR, HQ.out, hne]
      obtain ⟨i0, hi, hj0, hj1, hj2⟩ := info_parts info3
      have HI2 : Hid (IntsAt (w.alloc (.cells #[] 3)) b off l) := HI.out.below ((Below.refl _ w).alloc (Nat.le_refl _) _) HI.out.1
      clear hz1
      go_enter Try.func10, Try.ntmps10
      go_wp2_with (first | (go_at_call 19; refine H.out.mono ?_; rintro e w1 ⟨rfl, hw⟩; obtain rfl := hw.symm) | (at_builtin; refine wpList_append_own _ rfl _ _ 22 rfl w.heap.size 3 i0 _ 1 8 Try.underlying22 hi hj0 hj1 hj2 rfl (by decide) (.slice (some ⟨w.heap.size, 0, none⟩) 0 0) 0 [] rfl (rowI_empty w) ⟨b, off, none⟩ 4 cap (intCells l) rfl (by rw [intCells_length, HL.out]) HI2.out.cells (intCells_one l) (by unfold maxLen; omega) (by omega) (by simp) ?_; intro v' w1 hown hgrow hnil; have HB1 : Hid (Below w.heap.size w w1) := ((Below.refl _ w).alloc (Nat.le_refl _) _).grown hgrow (by simp) (fun k e => by cases e; exact Nat.le_refl _); have HO : Hid (OwnI w.heap.size w1 v' l) := OwnI.of_row (by rw [HL.out]; simpa using hown); clear hown hgrow hnil))
      go_ret2
      exact ⟨v', by rw [HD.out.1]; rfl, by rw [HD.out.2]; exact HO.out, HB1.out⟩
    · have HD : Hid (decF l m v = true ∧ decR l m v = l.set m v) := by
        have hne : intAt l m = -1 := by rw [← HZ.out]; omega
        show _ ∧ _
        simp [decF, decR, HQ.out, hne]
      have HW : Hid (Calls Try.prog 22 #[.slice (some ⟨b, off, none⟩) 4 cap, .int .i64 m, .int .i64 v] w fun e w' => ∃ x, e = .returned x ∧ OwnI w.heap.size w' x (l.set m v) ∧ Below w.heap.size w w') := with_any b off cap m v l w HL.out hm HI.out
      have hz2 : z < 0 := by omega
      clear hz1 hz0
      go_enter Try.func10, Try.ntmps10
      go_wp2_with fail
      refine H.out.mono ?_
      rintro e w1 ⟨rfl, hw⟩
      obtain rfl := hw.symm
      go_wp2_with fail
      refine HW.out.mono ?_
      rintro e w1 ⟨x, rfl, ho, hb⟩
      have HO : Hid (OwnI w.heap.size w1 x (l.set m v)) := ho
      have HB1 : Hid (Below w.heap.size w w1) := hb
      clear ho hb
      go_wp2
      go_ret2
      exact ⟨x, by rw [HD.out.1]; rfl, by rw [HD.out.2]; exact HO.out, HB1.out⟩
end Go.Proofs.Ytofbholpggkjcab
