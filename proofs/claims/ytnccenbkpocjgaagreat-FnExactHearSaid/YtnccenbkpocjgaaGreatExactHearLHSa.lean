/- The specification's l4antiAt, l1find, l4knows. -/
import Derived.Test.YtnccenbkpocjgaaGreatExactHearG40
import Derived.Test.YtnccenbkpocjgaaGreatExactHearLPSo
namespace Go.Proofs.YtnccenbkpocjgaaGreat
open Go.RowKit
def sAntiR (l : List Int) (z : Int) (r : Ending) : Prop := (∃ i : Nat, r = .returned (.int .i64 (i : Int)) ∧ i < l.length ∧ intAt l i = z) ∨ (r = .returned (.int .i64 (-1)) ∧ ∀ i, i < l.length → intAt l i ≠ z)
set_option maxRecDepth 100000 in
set_option maxHeartbeats 4000000 in
theorem sAnti_any (a : Option Addr) (cap : Nat) (l : List Int) (z : Int) (w : World) (hl : l.length ≤ 1048577) (h : IsI w (.slice a l.length cap) l) :
  Calls Tryz.prog 111 #[.slice a l.length cap, .int .i64 z] w fun r w' => sAntiR l z r ∧ w' = w := by
 have HI : Hid (l = [] ∨ ∃ b off, a = some ⟨b, off, none⟩ ∧ IntsAt w b off l) := by
  obtain ⟨a', c', e, _, _, h⟩ := h
  cases e
  exact h
 clear h
 go_enter Tryz.func111, Tryz.ntmps111
 go_wp2
 go_loopw [5] (fun i wr => wr = w ∧ ∃ j : Nat, j ≤ l.length ∧ i = .int .i64 j ∧ Hid (∀ i, i < j → intAt l i ≠ z)) (fun i _ => l.length - (intOf i).toNat)
 case atStart => exact ⟨rfl, 0, Nat.zero_le _, rfl, fun j hj => by omega⟩
 case round =>
  obtain ⟨hw, j, hj, rfl, HA⟩ := hrel
  have hw' := hw.symm
  clear hw
  subst hw'
  by_cases hlt : j < l.length
  ·obtain ⟨b, off, rfl, hb, hc⟩ := HI.out.resolve_left (by intro e; rw [e] at hlt; simp at hlt)
   have hji : (j : Int) < (l.length : Int) := by omega
   have k0 := hc j hlt
   clear hc
   by_cases hz : intAt l j = z
   ·have hzb : (intAt l j == z) = true := by simpa using hz
    have HZ : Hid (intAt l j = z) := hz
    clear hz
    go_wp2
    go_ret
    exact ⟨.inl ⟨j, rfl, hlt, HZ.out⟩, rfl⟩
   ·have hzb : (intAt l j == z) = false := by rw [beq_eq_false_iff_ne]; exact hz
    have HZ : Hid (¬ intAt l j = z) := hz
    go_wp2
    go_roundw
    case rel => exact ⟨by simp, j + 1, by omega, by go_num, fun i hi => by
     by_cases e : i = j
     ·subst e; exact HZ.out
     ·exact HA.out i (by omega)⟩
    case measure => simp [intOf]; omega
  ·obtain rfl : l.length = j := by omega
   go_wp2
   go_ret
   exact ⟨.inr ⟨rfl, HA.out⟩, rfl⟩
def sFindR (l : List Ev) (z : Int) (r : Ending) : Prop := (∃ i : Nat, r = .returned (.int .i64 (i : Int)) ∧ i < l.length ∧ (evAt l i).g = z) ∨ (r = .returned (.int .i64 (-1)) ∧ ∀ i, i < l.length → (evAt l i).g ≠ z)
set_option maxRecDepth 100000 in
set_option maxHeartbeats 4000000 in
theorem sFind_any (a : Option Addr) (cap : Nat) (l : List Ev) (z : Int) (w : World) (hl : l.length ≤ 1048577) (h : IsEvs w (.slice a l.length cap) l) :
  Calls Tryz.prog 110 #[.slice a l.length cap, .int .i64 z] w fun r w' => sFindR l z r ∧ w' = w := by
 have HI : Hid (l = [] ∨ ∃ b off, a = some ⟨b, off, none⟩ ∧ EvsAt w b off l) := by
  obtain ⟨a', c', e, _, _, h⟩ := h
  cases e
  exact h
 clear h
 go_enter Tryz.func110, Tryz.ntmps110
 go_wp2
 go_loopw [5] (fun i wr => wr = w ∧ ∃ j : Nat, j ≤ l.length ∧ i = .int .i64 j ∧ Hid (∀ i, i < j → (evAt l i).g ≠ z)) (fun i _ => l.length - (intOf i).toNat)
 case atStart => exact ⟨rfl, 0, Nat.zero_le _, rfl, fun j hj => by omega⟩
 case round =>
  obtain ⟨hw, j, hj, rfl, HA⟩ := hrel
  have hw' := hw.symm
  clear hw
  subst hw'
  by_cases hlt : j < l.length
  ·obtain ⟨b, off, rfl, hb, hc⟩ := HI.out.resolve_left (by intro e; rw [e] at hlt; simp at hlt)
   have hji : (j : Int) < (l.length : Int) := by omega
   obtain ⟨k0, k1, k2, k3, k4, k5, k6⟩ := hc j hlt
   clear hc
   by_cases hz : (evAt l j).g = z
   ·have hzb : ((evAt l j).g == z) = true := by simpa using hz
    have HZ : Hid ((evAt l j).g = z) := hz
    clear hz
    go_wp2
    go_ret
    exact ⟨.inl ⟨j, rfl, hlt, HZ.out⟩, rfl⟩
   ·have hzb : ((evAt l j).g == z) = false := by rw [beq_eq_false_iff_ne]; exact hz
    have HZ : Hid (¬ (evAt l j).g = z) := hz
    go_wp2
    go_roundw
    case rel => exact ⟨by simp, j + 1, by omega, by go_num, fun i hi => by
     by_cases e : i = j
     ·subst e; exact HZ.out
     ·exact HA.out i (by omega)⟩
    case measure => simp [intOf]; omega
  ·obtain rfl : l.length = j := by omega
   go_wp2
   go_ret
   exact ⟨.inr ⟨rfl, HA.out⟩, rfl⟩
theorem knows_two {p : Pa} {g : Int} : knowsB p g = true ↔ hasB p.p p.p.length g = true ∨ ∃ i, i < p.t.length ∧ (evAt p.t i).g = g := by
 rw [knowsB_iff]
 constructor
 ·rintro ⟨i, hi, e⟩
  rw [all_length] at hi
  by_cases h : i < p.p.length
  ·refine .inl ?_
   rw [all_done p h] at e
   cases hh : hasB p.p p.p.length g
   ·exact absurd e (hasB_no.1 hh i h)
   ·rfl
  ·refine .inr ⟨i - p.p.length, by omega, ?_⟩
   have := all_todo p (i - p.p.length)
   rw [show p.p.length + (i - p.p.length) = i by omega] at this
   rw [← this]
   exact e
 ·rintro (h | ⟨i, hi, e⟩)
  ·by_cases hx : ∃ i, i < p.p.length ∧ (psAt p.p i).e.g = g
   ·obtain ⟨i, hi, e⟩ := hx
    exact ⟨i, by rw [all_length]; omega, by rw [all_done p hi]; exact e⟩
   ·have : hasB p.p p.p.length g = false := hasB_no.2 (fun j hj e => hx ⟨j, hj, e⟩)
    rw [this] at h
    cases h
  ·exact ⟨p.p.length + i, by rw [all_length]; omega, by rw [all_todo]; exact e⟩
theorem pasts_tags {w : World} {a : Option Addr} {cap : Nat} {l : List Ps} (h : IsD w (.slice a l.length cap) (pastsD l)) : l.length = 0 ∨ ∃ b off, a = some ⟨b, off, none⟩ ∧ ∀ j, j < l.length → w.cell? ⟨b, off + j * 12 + 6, none⟩ = some (.int .i64 (psAt l j).e.g) := by
 obtain ⟨a', cap', e, _, _, h⟩ := IsD.parts (c := 12) (n := l.length) h
 cases e
 refine h.imp id ?_
 rintro ⟨b, off, rfl, _, hc⟩
 refine ⟨b, off, rfl, fun j hj => ?_⟩
 obtain ⟨u7, u10, u11, k0, k1, k2, k3, k4, k5, k6, _⟩ := pastsD_in hc hj
 exact k6
set_option maxRecDepth 100000 in
set_option maxHeartbeats 4000000 in
theorem sKnows (x : Value) (p : Pa) (g : Int) (w : World) (hl1 : p.p.length ≤ 1048576) (hl2 : p.t.length ≤ 1048576) (h : IsPart w x p) :
  Calls Tryz.prog 56 #[x, .int .i64 g] w fun r w' => r = .returned (.bool (knowsB p g)) ∧ Below w.heap.size w w' := by
 obtain ⟨u1, u4, u5, u6, rfl, d1, d4, d5, d6⟩ := h
 obtain ⟨a4, c4, rfl, _⟩ := IsD.len d4
 obtain ⟨a5, c5, rfl, _⟩ := IsD.len d5
 obtain ⟨W0, hW0⟩ : ∃ W0, w.alloc (.cells #[.int .i64 p.n, u1, .int .i64 p.st.q, .int .i64 p.st.d, .slice a4 p.p.length c4, .slice a5 p.t.length c5, u6] 33) = W0 := ⟨_, rfl⟩
 have hb0 : Below w.heap.size w W0 := hW0 ▸ (Below.refl _ w).alloc (Nat.le_refl _) _
 have HB0 : Hid (Below w.heap.size w W0) := hb0
 have BX : Hid (Bk W0 w.heap.size 33 #[.int .i64 p.n, u1, .int .i64 p.st.q, .int .i64 p.st.d, .slice a4 p.p.length c4, .slice a5 p.t.length c5, u6]) := hW0 ▸ Bk.new w _ _
 have H4 : Hid (IsD W0 (.slice a4 p.p.length c4) (pastsD p.p)) := d4.under hb0
 have H5 : Hid (IsEvs W0 (.slice a5 p.t.length c5) p.t) := (d5.under hb0).isEvs
 clear d1 d4 d5 d6 hb0
 have x4 := BX.out.cell (i := 4) rfl
 go_enter Tryz.func56, Tryz.ntmps56
 go_wp2_with fail
 clear hW0 x4
 refine (sPast a4 p.p.length c4 p.p g _ hl1 (pasts_tags H4.out)).mono ?_
 rintro r w1 ⟨rfl, hb⟩
 have HB1 : Hid (Below w.heap.size w w1) := HB0.out.trans (hb.mono HB0.out.size)
 have X1 : Hid (Bk w1 w.heap.size 33 #[.int .i64 p.n, u1, .int .i64 p.st.q, .int .i64 p.st.d, .slice a4 p.p.length c4, .slice a5 p.t.length c5, u6]) := BX.out.below hb
 have H51 : Hid (IsEvs w1 (.slice a5 p.t.length c5) p.t) := H5.out.below hb
 clear hb
 cases hh : hasB p.p p.p.length g
 case true =>
  have HY : Hid (knowsB p g = true) := knows_two.2 (.inl hh)
  clear hh
  go_wp2
  go_ret
  exact ⟨ret_bool HY.out.symm, HB1.out⟩
 have HH : Hid (hasB p.p p.p.length g = false) := hh
 clear hh
 have x5 := X1.out.cell (i := 5) rfl
 go_wp2_with fail
 clear x5
 refine (sFind_any a5 c5 p.t g _ (by omega) H51.out).mono ?_
 rintro r w2 ⟨hR, hw⟩
 obtain rfl := hw.symm
 rcases hR with ⟨i, rfl, hi, hg⟩ | ⟨rfl, hn⟩
 ·have HY : Hid (knowsB p g = true) := knows_two.2 (.inr ⟨i, hi, hg⟩)
  have hi0 : (0 : Int) ≤ (i : Int) := by omega
  clear hi hg
  go_wp2
  go_ret
  exact ⟨ret_bool HY.out.symm, HB1.out⟩
 ·have HN : Hid (knowsB p g = false) := by
   show knowsB p g = false
   cases hk : knowsB p g
   ·rfl
   ·rcases knows_two.1 hk with h1 | ⟨i, hi, e⟩
    ·rw [HH.out] at h1; cases h1
    ·exact absurd e (hn i hi)
  clear hn
  go_wp2
  go_ret
  exact ⟨ret_bool HN.out.symm, HB1.out⟩
end Go.Proofs.YtnccenbkpocjgaaGreat
