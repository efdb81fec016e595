/- TRow, TPs, TPt, TPsA, TPsB -/
import Derived.Test.YtnccenbkpocjgaaGreatExactPartNewG14
import Derived.Test.YtnccenbkpocjgaaGreatExactPartNewG13
import Derived.Deep.RegionHeld3
/- Rows of numbers, events and emits: how much there is, held against each other, copied, marked, found again; each in one form. -/
namespace Go.Proofs.YtnccenbkpocjgaaGreat
open Go.RowKit
theorem ints_plain (l : List Int) : ∀ u ∈ intCells l, ∃ i, u = .int .i64 i := by
 intro u hu
 simp only [intCells, List.mem_map] at hu
 obtain ⟨i, _, rfl⟩ := hu
 exact ⟨i, rfl⟩
theorem evs_plain : ∀ (l : List Ev), ∀ u ∈ cellsL l, ∃ i, u = .int .i64 i
 | [], u, hu => by cases hu
 | e :: l, u, hu => by
  rcases List.mem_append.1 hu with h | h
  ·simp [Ev.cs] at h
   rcases h with rfl | rfl | rfl | rfl | rfl | rfl | rfl <;> exact ⟨_, rfl⟩
  ·exact evs_plain l u h
theorem ems_plain : ∀ (l : List Em), ∀ u ∈ cellsX l, ∃ i, u = .int .i64 i
 | [], u, hu => by cases hu
 | e :: l, u, hu => by
  rcases List.mem_append.1 hu with h | h
  ·simp [Em.cs] at h
   rcases h with rfl | rfl | rfl <;> exact ⟨_, rfl⟩
  ·exact ems_plain l u h
theorem IsD.len {w : World} {x : Value} {c n : Nat} {f : Nat → Dat} (h : IsD w x (.row c n f)) : ∃ a cap, x = .slice a n cap ∧ n ≤ maxLen := by
 obtain ⟨a, cap, rfl, h1, h2, _⟩ := h.parts
 exact ⟨a, cap, rfl, Nat.le_trans h1 h2⟩
theorem ints_wt (l : List Int) : (intsD l).wt = l.length := flat_wt _ _ _
theorem ints_cnt (l : List Int) : (intsD l).cnt = l.length * 1 := flat_cnt _ _ _
theorem ints_thin (l : List Int) : (intsD l).thin := flat_thin (by omega)
theorem eq_ints (x y : Value) (l : List Int) (w : World) (hl : l.length ≤ 1048576) (hx : IsD w x (intsD l)) (hy : IsD w y (intsD l)) :
  Calls Tryz.prog 29 #[x, y] w fun e w' => e = .returned (.bool true) ∧ Below w.heap.size w w' :=
 eqI_same x y l w (by omega) hx.isI hy.isI
theorem mark_ints {F : Nat → Prop} {x : Value} {l : List Int} {w : World} (z : Int) (hn : l.length ≤ 1048577) (hz0 : 0 ≤ z) (hz1 : z ≤ 1073741824) (h : OwnD w F x (intsD l)) :
  Calls Tryz.prog 30 #[x, .int .i64 z] w fun e w' => e = .returned (.int .i64 (z + ((intsD l).cnt : Int))) ∧ OwnD w' F x ((intsD l).mark z) ∧ Turns F w w' := by
 refine (markIF z hn hz0 hz1 (OwnD.rowF (c := 1) h (by rw [intCells_length, Nat.mul_one]))).mono ?_
 rintro e w' ⟨rfl, hr, ht⟩
 refine ⟨ret_int ?_, flat_marked hr.own (ints_plain l), ht⟩
 rw [ints_cnt]
 omega
theorem held_ints {F : Nat → Prop} {x : Value} {l : List Int} {w : World} (z : Int) (hn : l.length ≤ 1048577) (hz0 : 0 ≤ z) (hz1 : z ≤ 1073741824) (h : OwnD w F x ((intsD l).mark z)) :
  Calls Tryz.prog 51 #[x, .int .i64 z] w fun e w' => e = .returned (.int .i64 (z + ((intsD l).cnt : Int))) ∧ Below w.heap.size w w' := by
 refine (heldIF (F := F) z hn hz0 hz1 (OwnD.rowF (c := 1) (flat_unmarked h (ints_plain l)) (mkCells_length _ _))).mono ?_
 rintro e w' ⟨rfl, rfl⟩
 refine ⟨ret_int ?_, Below.refl _ _⟩
 rw [ints_cnt]
 omega
theorem evs_wt (l : List Ev) : (evsD l).wt = l.length := flat_wt _ _ _
theorem evs_cnt (l : List Ev) : (evsD l).cnt = l.length * 7 := flat_cnt _ _ _
theorem evs_thin (l : List Ev) : (evsD l).thin := flat_thin (by omega)
theorem eq_evs (x y : Value) (l : List Ev) (w : World) (hl : l.length ≤ 1048576) (hx : IsD w x (evsD l)) (hy : IsD w y (evsD l)) :
  Calls Tryz.prog 21 #[x, y] w fun e w' => e = .returned (.bool true) ∧ Below w.heap.size w w' :=
 eqS_same x y l w hl hx.isEvs hy.isEvs
theorem mark_evs {F : Nat → Prop} {x : Value} {l : List Ev} {w : World} (z : Int) (hn : l.length ≤ 1048577) (hz0 : 0 ≤ z) (hz1 : z ≤ 1073741824) (h : OwnD w F x (evsD l)) :
  Calls Tryz.prog 22 #[x, .int .i64 z] w fun e w' => e = .returned (.int .i64 (z + ((evsD l).cnt : Int))) ∧ OwnD w' F x ((evsD l).mark z) ∧ Turns F w w' := by
 refine (markEF z hn hz0 hz1 (OwnD.rowF (c := 7) h (cellsL_length l))).mono ?_
 rintro e w' ⟨rfl, hr, ht⟩
 refine ⟨ret_int ?_, flat_marked hr.own (evs_plain l), ht⟩
 rw [evs_cnt]
 omega
theorem held_evs {F : Nat → Prop} {x : Value} {l : List Ev} {w : World} (z : Int) (hn : l.length ≤ 1048577) (hz0 : 0 ≤ z) (hz1 : z ≤ 1073741824) (h : OwnD w F x ((evsD l).mark z)) :
  Calls Tryz.prog 23 #[x, .int .i64 z] w fun e w' => e = .returned (.int .i64 (z + ((evsD l).cnt : Int))) ∧ Below w.heap.size w w' := by
 refine (heldEF (F := F) z hn hz0 hz1 (OwnD.rowF (c := 7) (flat_unmarked h (evs_plain l)) (mkCells_length _ _))).mono ?_
 rintro e w' ⟨rfl, rfl⟩
 refine ⟨ret_int ?_, Below.refl _ _⟩
 rw [evs_cnt]
 omega
theorem ems_wt (l : List Em) : (emsD l).wt = l.length := flat_wt _ _ _
theorem ems_cnt (l : List Em) : (emsD l).cnt = l.length * 3 := flat_cnt _ _ _
theorem ems_thin (l : List Em) : (emsD l).thin := flat_thin (by omega)
theorem eq_ems (x y : Value) (l : List Em) (w : World) (hl : l.length ≤ 1048576) (hx : IsD w x (emsD l)) (hy : IsD w y (emsD l)) :
  Calls Tryz.prog 155 #[x, y] w fun e w' => e = .returned (.bool true) ∧ Below w.heap.size w w' :=
 eqX_same x y l w hl hx.isX hy.isX
theorem mark_ems {F : Nat → Prop} {x : Value} {l : List Em} {w : World} (z : Int) (hn : l.length ≤ 1048577) (hz0 : 0 ≤ z) (hz1 : z ≤ 1073741824) (h : OwnD w F x (emsD l)) :
  Calls Tryz.prog 101 #[x, .int .i64 z] w fun e w' => e = .returned (.int .i64 (z + ((emsD l).cnt : Int))) ∧ OwnD w' F x ((emsD l).mark z) ∧ Turns F w w' := by
 refine (markXF z hn hz0 hz1 (OwnD.rowF (c := 3) h (cellsX_length l))).mono ?_
 rintro e w' ⟨rfl, hr, ht⟩
 refine ⟨ret_int ?_, flat_marked hr.own (ems_plain l), ht⟩
 rw [ems_cnt]
 omega
theorem held_ems {F : Nat → Prop} {x : Value} {l : List Em} {w : World} (z : Int) (hn : l.length ≤ 1048577) (hz0 : 0 ≤ z) (hz1 : z ≤ 1073741824) (h : OwnD w F x ((emsD l).mark z)) :
  Calls Tryz.prog 102 #[x, .int .i64 z] w fun e w' => e = .returned (.int .i64 (z + ((emsD l).cnt : Int))) ∧ Below w.heap.size w w' := by
 refine (heldXF (F := F) z hn hz0 hz1 (OwnD.rowF (c := 3) (flat_unmarked h (ems_plain l)) (mkCells_length _ _))).mono ?_
 rintro e w' ⟨rfl, rfl⟩
 refine ⟨ret_int ?_, Below.refl _ _⟩
 rw [ems_cnt]
 omega
end Go.Proofs.YtnccenbkpocjgaaGreat

/- What was done: one event, the state ahead of it, what was sent and told; rows of it as data. -/
namespace Go.Proofs.YtnccenbkpocjgaaGreat
open Go.RowKit
theorem sumL_add (L : Nat → Nat) (a : Nat) : ∀ b, sumL L (a + b) = sumL L a + sumL (fun i => L (a + i)) b
 | 0 => by simp [sumL]
 | b + 1 => by
  rw [← Nat.add_assoc]
  simp only [sumL]
  rw [sumL_add L a b]
  omega
theorem sumL_grid {c : Nat} {h : Nat → Nat → Nat} : ∀ n, sumL (fun j => h (j / c) (j % c)) (n * c) = sumL (fun i => sumL (fun r => h i r) c) n
 | 0 => by simp [sumL]
 | n + 1 => by
  rw [Nat.succ_mul, sumL_add, sumL_grid n]
  simp only [sumL]
  congr 1
  refine sumL_congr (fun r hr => ?_)
  rw [Nat.mul_comm n c, Nat.mul_add_div (by omega), Nat.div_eq_of_lt hr, Nat.add_zero, Nat.mul_add_mod, Nat.mod_eq_of_lt hr]
theorem sumL_mem (L : Nat → Nat) {n i : Nat} (h : i < n) : L i ≤ sumL L n := by
 have h1 := sumL_mono L (show i + 1 ≤ n from h)
 simp only [sumL] at h1
 omega
structure Ps where
 e : Ev
 b : St
 s : List Ev
 x : List Em
def psAt (l : List Ps) (i : Nat) : Ps := l.getD i ⟨⟨0, 0, 0, 0, 0, 0, 0⟩, ⟨[], 0, 0⟩, [], []⟩
def Ps.cell (p : Ps) : Nat → Dat
 | 0 => Dat.val (.int .i64 p.e.t)
 | 1 => Dat.val (.int .i64 p.e.s)
 | 2 => Dat.val (.int .i64 p.e.q)
 | 3 => Dat.val (.int .i64 p.e.d)
 | 4 => Dat.val (.int .i64 p.e.k)
 | 5 => Dat.val (.int .i64 p.e.v)
 | 6 => Dat.val (.int .i64 p.e.g)
 | 7 => intsD p.b.r
 | 8 => Dat.val (.int .i64 p.b.q)
 | 9 => Dat.val (.int .i64 p.b.d)
 | 10 => evsD p.s
 | 11 => emsD p.x
 | _ => .val (.int .i64 0)
def Ps.wt (p : Ps) : Nat := (intsD p.b.r).wt + (evsD p.s).wt + (emsD p.x).wt
def pastsD_f (l : List Ps) : Nat → Dat := fun j => (psAt l (j / 12)).cell (j % 12)
def pastsD (l : List Ps) : Dat := .row 12 l.length (pastsD_f l)
theorem pastsD_at (l : List Ps) (i : Nat) {r : Nat} (hr : r < 12) : pastsD_f l (i * 12 + r) = (psAt l i).cell r := by
 show (psAt l ((i * 12 + r) / 12)).cell ((i * 12 + r) % 12) = _
 rw [show (i * 12 + r) / 12 = i from by omega, show (i * 12 + r) % 12 = r from by omega]
theorem pastsD_wt (l : List Ps) : (pastsD l).wt = l.length + sumL (fun i => (psAt l i).wt) l.length := by
 show l.length + sumL (fun j => ((psAt l (j / 12)).cell (j % 12)).wt) (l.length * 12) = _
 rw [sumL_grid (h := fun i r => ((psAt l i).cell r).wt)]
 congr 1
 refine sumL_congr (fun i _ => ?_)
 simp only [sumL, Ps.cell, Ps.wt, Dat.wt, Nat.zero_add, Nat.add_zero]
theorem Ps.thin (p : Ps) (r : Nat) : (p.cell r).thin := by
 unfold Ps.cell
 split
 ·trivial
 ·trivial
 ·trivial
 ·trivial
 ·trivial
 ·trivial
 ·trivial
 ·exact ints_thin _
 ·trivial
 ·trivial
 ·exact evs_thin _
 ·exact ems_thin _
 ·trivial
theorem pasts_thin (l : List Ps) : (pastsD l).thin := ⟨by omega, fun j => Ps.thin (psAt l (j / 12)) (j % 12)⟩
theorem Ps.wt_le {l : List Ps} {i : Nat} (h : i < l.length) : (psAt l i).wt ≤ (pastsD l).wt := by
 rw [pastsD_wt]
 have := sumL_mem (fun i => (psAt l i).wt) h
 omega
def IsPast (w : World) (x : Value) (p : Ps) : Prop := ∃ u7 u10 u11, x = .agg #[.int .i64 p.e.t, .int .i64 p.e.s, .int .i64 p.e.q, .int .i64 p.e.d, .int .i64 p.e.k, .int .i64 p.e.v, .int .i64 p.e.g, u7, .int .i64 p.b.q, .int .i64 p.b.d, u10, u11] ∧ IsD w u7 (intsD p.b.r) ∧ IsD w u10 (evsD p.s) ∧ IsD w u11 (emsD p.x)
theorem IsPast.under {w w' : World} {x : Value} {p : Ps} (h : IsPast w x p) (hb : Below w.heap.size w w') : IsPast w' x p := by
 obtain ⟨u7, u10, u11, rfl, h7, h10, h11⟩ := h
 exact ⟨u7, u10, u11, rfl, h7.under hb, h10.under hb, h11.under hb⟩
theorem pastsD_in {w : World} {b off n : Nat} {l : List Ps} (h : ∀ j, j < n * 12 → ∃ u, w.cell? ⟨b, off + j, none⟩ = some u ∧ IsD w u ((psAt l (j / 12)).cell (j % 12))) {i : Nat} (hi : i < n) :
  ∃ u7 u10 u11, w.cell? ⟨b, off + i * 12, none⟩ = some (.int .i64 (psAt l i).e.t) ∧ w.cell? ⟨b, off + i * 12 + 1, none⟩ = some (.int .i64 (psAt l i).e.s) ∧ w.cell? ⟨b, off + i * 12 + 2, none⟩ = some (.int .i64 (psAt l i).e.q) ∧ w.cell? ⟨b, off + i * 12 + 3, none⟩ = some (.int .i64 (psAt l i).e.d) ∧ w.cell? ⟨b, off + i * 12 + 4, none⟩ = some (.int .i64 (psAt l i).e.k) ∧ w.cell? ⟨b, off + i * 12 + 5, none⟩ = some (.int .i64 (psAt l i).e.v) ∧ w.cell? ⟨b, off + i * 12 + 6, none⟩ = some (.int .i64 (psAt l i).e.g) ∧ w.cell? ⟨b, off + i * 12 + 7, none⟩ = some (u7) ∧ w.cell? ⟨b, off + i * 12 + 8, none⟩ = some (.int .i64 (psAt l i).b.q) ∧ w.cell? ⟨b, off + i * 12 + 9, none⟩ = some (.int .i64 (psAt l i).b.d) ∧ w.cell? ⟨b, off + i * 12 + 10, none⟩ = some (u10) ∧ w.cell? ⟨b, off + i * 12 + 11, none⟩ = some (u11) ∧ IsD w u7 (intsD (psAt l i).b.r) ∧ IsD w u10 (evsD (psAt l i).s) ∧ IsD w u11 (emsD (psAt l i).x) := by
 have hh : ∀ r, r < 12 → ∃ u, w.cell? ⟨b, off + i * 12 + r, none⟩ = some u ∧ IsD w u ((psAt l i).cell r) := fun r hr => by
  have := h (i * 12 + r) (by omega)
  rw [show (i * 12 + r) / 12 = i from by omega, show (i * 12 + r) % 12 = r from by omega, ← Nat.add_assoc] at this
  exact this
 obtain ⟨u0, c0, d0⟩ := hh 0 (by omega)
 obtain ⟨u1, c1, d1⟩ := hh 1 (by omega)
 obtain ⟨u2, c2, d2⟩ := hh 2 (by omega)
 obtain ⟨u3, c3, d3⟩ := hh 3 (by omega)
 obtain ⟨u4, c4, d4⟩ := hh 4 (by omega)
 obtain ⟨u5, c5, d5⟩ := hh 5 (by omega)
 obtain ⟨u6, c6, d6⟩ := hh 6 (by omega)
 obtain ⟨u7, c7, d7⟩ := hh 7 (by omega)
 obtain ⟨u8, c8, d8⟩ := hh 8 (by omega)
 obtain ⟨u9, c9, d9⟩ := hh 9 (by omega)
 obtain ⟨u10, c10, d10⟩ := hh 10 (by omega)
 obtain ⟨u11, c11, d11⟩ := hh 11 (by omega)
 obtain rfl := d0.val_eq
 obtain rfl := d1.val_eq
 obtain rfl := d2.val_eq
 obtain rfl := d3.val_eq
 obtain rfl := d4.val_eq
 obtain rfl := d5.val_eq
 obtain rfl := d6.val_eq
 obtain rfl := d8.val_eq
 obtain rfl := d9.val_eq
 exact ⟨u7, u10, u11, c0, c1, c2, c3, c4, c5, c6, c7, c8, c9, c10, c11, d7, d10, d11⟩
end Go.Proofs.YtnccenbkpocjgaaGreat

/- A part, as plain values and as data. -/
namespace Go.Proofs.YtnccenbkpocjgaaGreat
open Go.RowKit
structure Pa where
 n : Int
 st : St
 p : List Ps
 t : List Ev
 a : List Int
def Pa.wt (p : Pa) : Nat := (intsD p.st.r).wt + (pastsD p.p).wt + (evsD p.t).wt + (intsD p.a).wt
def IsPart (w : World) (x : Value) (p : Pa) : Prop := ∃ u1 u4 u5 u6, x = .agg #[.int .i64 p.n, u1, .int .i64 p.st.q, .int .i64 p.st.d, u4, u5, u6] ∧ IsD w u1 (intsD p.st.r) ∧ IsD w u4 (pastsD p.p) ∧ IsD w u5 (evsD p.t) ∧ IsD w u6 (intsD p.a)
end Go.Proofs.YtnccenbkpocjgaaGreat

/- szPast, szPastS: how much there is; eqPast: two alike. -/
namespace Go.Proofs.YtnccenbkpocjgaaGreat
open Go.RowKit
set_option maxHeartbeats 4000000 in
theorem eqPast_same (x y : Value) (p : Ps) (w : World) (hw : p.wt ≤ 1048576) (hx : IsPast w x p) (hy : IsPast w y p) :
  Calls Tryz.prog 98 #[x, y] w fun e w' => e = .returned (.bool true) ∧ Below w.heap.size w w' := by
 obtain ⟨u7, u10, u11, rfl, h7, h10, h11⟩ := hx
 obtain ⟨v7, v10, v11, rfl, k7, k10, k11⟩ := hy
 have H7 : Hid (IsD w u7 (intsD p.b.r) ∧ IsD w v7 (intsD p.b.r)) := ⟨h7, k7⟩
 have H10 : Hid (IsD w u10 (evsD p.s) ∧ IsD w v10 (evsD p.s)) := ⟨h10, k10⟩
 have H11 : Hid (IsD w u11 (emsD p.x) ∧ IsD w v11 (emsD p.x)) := ⟨h11, k11⟩
 have HS : Hid (p.wt ≤ 1048576) := hw
 clear hw h7 k7 h10 k10 h11 k11
 obtain ⟨W0, hW0⟩ : ∃ W0, (w.alloc (.cells #[.int .i64 p.e.t, .int .i64 p.e.s, .int .i64 p.e.q, .int .i64 p.e.d, .int .i64 p.e.k, .int .i64 p.e.v, .int .i64 p.e.g, u7, .int .i64 p.b.q, .int .i64 p.b.d, u10, u11] 126)).alloc (.cells #[.int .i64 p.e.t, .int .i64 p.e.s, .int .i64 p.e.q, .int .i64 p.e.d, .int .i64 p.e.k, .int .i64 p.e.v, .int .i64 p.e.g, v7, .int .i64 p.b.q, .int .i64 p.b.d, v10, v11] 126) = W0 := ⟨_, rfl⟩
 have HB0 : Hid (Below w.heap.size w W0) := by rw [← hW0]; exact ((Below.refl _ w).alloc (Nat.le_refl _) _).alloc (by simp) _
 have HP0 : Hid (Bk W0 w.heap.size 126 #[.int .i64 p.e.t, .int .i64 p.e.s, .int .i64 p.e.q, .int .i64 p.e.d, .int .i64 p.e.k, .int .i64 p.e.v, .int .i64 p.e.g, u7, .int .i64 p.b.q, .int .i64 p.b.d, u10, u11]) := by rw [← hW0]; exact (Bk.new w _ _).alloc _
 have HQ0 : Hid (Bk W0 (w.heap.size + 1) 126 #[.int .i64 p.e.t, .int .i64 p.e.s, .int .i64 p.e.q, .int .i64 p.e.d, .int .i64 p.e.k, .int .i64 p.e.v, .int .i64 p.e.g, v7, .int .i64 p.b.q, .int .i64 p.b.d, v10, v11]) := by rw [← hW0]; exact Bk.newAt (by simp) _ _
 have HW : Hid ((w.alloc (.cells #[.int .i64 p.e.t, .int .i64 p.e.s, .int .i64 p.e.q, .int .i64 p.e.d, .int .i64 p.e.k, .int .i64 p.e.v, .int .i64 p.e.g, u7, .int .i64 p.b.q, .int .i64 p.b.d, u10, u11] 126)).alloc (.cells #[.int .i64 p.e.t, .int .i64 p.e.s, .int .i64 p.e.q, .int .i64 p.e.d, .int .i64 p.e.k, .int .i64 p.e.v, .int .i64 p.e.g, v7, .int .i64 p.b.q, .int .i64 p.b.d, v10, v11] 126) = W0) := hW0
 clear hW0
 go_enter Tryz.func98, Tryz.ntmps98
 have p0 := HP0.out.cell (i := 0) rfl
 have q0 := HQ0.out.cell (i := 0) rfl
 have p1 := HP0.out.cell (i := 1) rfl
 have q1 := HQ0.out.cell (i := 1) rfl
 have p2 := HP0.out.cell (i := 2) rfl
 have q2 := HQ0.out.cell (i := 2) rfl
 have p3 := HP0.out.cell (i := 3) rfl
 have q3 := HQ0.out.cell (i := 3) rfl
 have p4 := HP0.out.cell (i := 4) rfl
 have q4 := HQ0.out.cell (i := 4) rfl
 have p5 := HP0.out.cell (i := 5) rfl
 have q5 := HQ0.out.cell (i := 5) rfl
 have p6 := HP0.out.cell (i := 6) rfl
 have q6 := HQ0.out.cell (i := 6) rfl
 go_wp2_with fail
 rw [HW.out]
 clear HW
 clear p0 q0 p1 q1 p2 q2 p3 q3 p4 q4 p5 q5 p6 q6
 refine (eqEvent_same _ _ _ _ _ _ _ _).mono ?_
 rintro e w1 ⟨rfl, hb⟩
 have HB1 : Hid (Below w.heap.size w w1) := HB0.out.trans (hb.mono HB0.out.size)
 have HP1 : Hid (Bk w1 w.heap.size 126 #[.int .i64 p.e.t, .int .i64 p.e.s, .int .i64 p.e.q, .int .i64 p.e.d, .int .i64 p.e.k, .int .i64 p.e.v, .int .i64 p.e.g, u7, .int .i64 p.b.q, .int .i64 p.b.d, u10, u11]) := HP0.out.below hb
 have HQ1 : Hid (Bk w1 (w.heap.size + 1) 126 #[.int .i64 p.e.t, .int .i64 p.e.s, .int .i64 p.e.q, .int .i64 p.e.d, .int .i64 p.e.k, .int .i64 p.e.v, .int .i64 p.e.g, v7, .int .i64 p.b.q, .int .i64 p.b.d, v10, v11]) := HQ0.out.below hb
 clear hb
 have p7 := HP1.out.cell (i := 7) rfl
 have q7 := HQ1.out.cell (i := 7) rfl
 have p8 := HP1.out.cell (i := 8) rfl
 have q8 := HQ1.out.cell (i := 8) rfl
 have p9 := HP1.out.cell (i := 9) rfl
 have q9 := HQ1.out.cell (i := 9) rfl
 go_wp2_with fail
 clear p7 q7 p8 q8 p9 q9
 refine (eqState_same _ _ p.b _ (by have := HS.out; unfold Ps.wt at this; simp only [ems_wt, evs_wt, ints_wt] at this; omega) ⟨_, rfl, (H7.out.1.under HB1.out).isI⟩ ⟨_, rfl, (H7.out.2.under HB1.out).isI⟩).mono ?_
 rintro e w2 ⟨rfl, hb⟩
 have HB2 : Hid (Below w.heap.size w w2) := HB1.out.trans (hb.mono HB1.out.size)
 have HP2 : Hid (Bk w2 w.heap.size 126 #[.int .i64 p.e.t, .int .i64 p.e.s, .int .i64 p.e.q, .int .i64 p.e.d, .int .i64 p.e.k, .int .i64 p.e.v, .int .i64 p.e.g, u7, .int .i64 p.b.q, .int .i64 p.b.d, u10, u11]) := HP1.out.below hb
 have HQ2 : Hid (Bk w2 (w.heap.size + 1) 126 #[.int .i64 p.e.t, .int .i64 p.e.s, .int .i64 p.e.q, .int .i64 p.e.d, .int .i64 p.e.k, .int .i64 p.e.v, .int .i64 p.e.g, v7, .int .i64 p.b.q, .int .i64 p.b.d, v10, v11]) := HQ1.out.below hb
 clear hb
 have p10 := HP2.out.cell (i := 10) rfl
 have q10 := HQ2.out.cell (i := 10) rfl
 go_wp2_with fail
 clear p10 q10
 refine (eq_evs _ _ p.s _ (by have := HS.out; unfold Ps.wt at this; simp only [ems_wt, evs_wt, ints_wt] at this; omega) (H10.out.1.under HB2.out) (H10.out.2.under HB2.out)).mono ?_
 rintro e w3 ⟨rfl, hb⟩
 have HB3 : Hid (Below w.heap.size w w3) := HB2.out.trans (hb.mono HB2.out.size)
 have HP3 : Hid (Bk w3 w.heap.size 126 #[.int .i64 p.e.t, .int .i64 p.e.s, .int .i64 p.e.q, .int .i64 p.e.d, .int .i64 p.e.k, .int .i64 p.e.v, .int .i64 p.e.g, u7, .int .i64 p.b.q, .int .i64 p.b.d, u10, u11]) := HP2.out.below hb
 have HQ3 : Hid (Bk w3 (w.heap.size + 1) 126 #[.int .i64 p.e.t, .int .i64 p.e.s, .int .i64 p.e.q, .int .i64 p.e.d, .int .i64 p.e.k, .int .i64 p.e.v, .int .i64 p.e.g, v7, .int .i64 p.b.q, .int .i64 p.b.d, v10, v11]) := HQ2.out.below hb
 clear hb
 have p11 := HP3.out.cell (i := 11) rfl
 have q11 := HQ3.out.cell (i := 11) rfl
 go_wp2_with fail
 clear p11 q11
 refine (eq_ems _ _ p.x _ (by have := HS.out; unfold Ps.wt at this; simp only [ems_wt, evs_wt, ints_wt] at this; omega) (H11.out.1.under HB3.out) (H11.out.2.under HB3.out)).mono ?_
 rintro e w4 ⟨rfl, hb⟩
 have HB4 : Hid (Below w.heap.size w w4) := HB3.out.trans (hb.mono HB3.out.size)
 have HP4 : Hid (Bk w4 w.heap.size 126 #[.int .i64 p.e.t, .int .i64 p.e.s, .int .i64 p.e.q, .int .i64 p.e.d, .int .i64 p.e.k, .int .i64 p.e.v, .int .i64 p.e.g, u7, .int .i64 p.b.q, .int .i64 p.b.d, u10, u11]) := HP3.out.below hb
 have HQ4 : Hid (Bk w4 (w.heap.size + 1) 126 #[.int .i64 p.e.t, .int .i64 p.e.s, .int .i64 p.e.q, .int .i64 p.e.d, .int .i64 p.e.k, .int .i64 p.e.v, .int .i64 p.e.g, v7, .int .i64 p.b.q, .int .i64 p.b.d, v10, v11]) := HQ3.out.below hb
 clear hb
 go_wp2
 go_ret
 exact ⟨rfl, HB4.out⟩
end Go.Proofs.YtnccenbkpocjgaaGreat

/- eqPastS: two rows alike. -/
namespace Go.Proofs.YtnccenbkpocjgaaGreat
open Go.RowKit
set_option maxHeartbeats 8000000 in
theorem eq_pasts (x y : Value) (l : List Ps) (w : World) (hl : (pastsD l).wt ≤ 1048576) (hx : IsD w x (pastsD l)) (hy : IsD w y (pastsD l)) :
  Calls Tryz.prog 44 #[x, y] w fun e w' => e = .returned (.bool true) ∧ Below w.heap.size w w' := by
 obtain ⟨a, cap, rfl, h1, h2, h⟩ := IsD.parts (c := 12) (n := l.length) hx
 obtain ⟨a', cap', rfl, h1', h2', h'⟩ := IsD.parts (c := 12) (n := l.length) hy
 have HS : Hid ((pastsD l).wt ≤ 1048576) := hl
 have hl2 : l.length ≤ 1048576 := by rw [pastsD_wt] at hl; omega
 clear h1 h2 h1' h2' hx hy hl
 go_enter Tryz.func44, Tryz.ntmps44
 go_wp2
 go_loopw [5] (fun i wr => ∃ k : Nat, k ≤ l.length ∧ i = .int .i64 k ∧ Below w.heap.size w wr) (fun i _ => l.length - (intOf i).toNat)
 case atStart => exact ⟨0, Nat.zero_le _, rfl, Below.refl _ _⟩
 case round =>
  obtain ⟨k, hk, rfl, hB⟩ := hrel
  have HB : Hid (Below w.heap.size w wr) := hB
  by_cases hlt : k < l.length
  ·obtain ⟨b, off, rfl, hb, hc⟩ := h.resolve_left (by omega)
   obtain ⟨b', off', rfl, hb', hc'⟩ := h'.resolve_left (by omega)
   obtain ⟨u7, u10, u11, f0, f1, f2, f3, f4, f5, f6, f7, f8, f9, f10, f11, d7, d10, d11⟩ := pastsD_in (fun j hj => by
    obtain ⟨u, hu, hd⟩ := hc j hj
    exact ⟨u, (hB.cell (p := ⟨b, off + j, none⟩) hb).trans hu, hd.under hB⟩) hlt
   obtain ⟨v7, v10, v11, e0, e1, e2, e3, e4, e5, e6, e7, e8, e9, e10, e11, g7, g10, g11⟩ := pastsD_in (fun j hj => by
    obtain ⟨u, hu, hd⟩ := hc' j hj
    exact ⟨u, (hB.cell (p := ⟨b', off' + j, none⟩) hb').trans hu, hd.under hB⟩) hlt
   have HD : Hid (IsPast wr.drew (.agg #[.int .i64 (psAt l k).e.t, .int .i64 (psAt l k).e.s, .int .i64 (psAt l k).e.q, .int .i64 (psAt l k).e.d, .int .i64 (psAt l k).e.k, .int .i64 (psAt l k).e.v, .int .i64 (psAt l k).e.g, u7, .int .i64 (psAt l k).b.q, .int .i64 (psAt l k).b.d, u10, u11]) (psAt l k)) := IsPast.under (w := wr) ⟨u7, u10, u11, rfl, d7, d10, d11⟩ (Below.refl _ wr).drew
   have HG : Hid (IsPast wr.drew (.agg #[.int .i64 (psAt l k).e.t, .int .i64 (psAt l k).e.s, .int .i64 (psAt l k).e.q, .int .i64 (psAt l k).e.d, .int .i64 (psAt l k).e.k, .int .i64 (psAt l k).e.v, .int .i64 (psAt l k).e.g, v7, .int .i64 (psAt l k).b.q, .int .i64 (psAt l k).b.d, v10, v11]) (psAt l k)) := IsPast.under (w := wr) ⟨v7, v10, v11, rfl, g7, g10, g11⟩ (Below.refl _ wr).drew
   have HW : Hid ((psAt l k).wt ≤ 1048576) := Nat.le_trans (Ps.wt_le hlt) HS.out
   have hbr : b < wr.heap.size := Nat.lt_of_lt_of_le hb hB.size
   have hbr' : b' < wr.heap.size := Nat.lt_of_lt_of_le hb' hB.size
   clear hB hc hc' h h' d7 d10 d11 g7 g10 g11
   go_wp2_with fail
   go_region_held3 (fun W => W.cell? ⟨b, off + k * 12, none⟩ = some (.int .i64 (psAt l k).e.t) ∧ W.cell? ⟨b, off + k * 12 + 1, none⟩ = some (.int .i64 (psAt l k).e.s) ∧ W.cell? ⟨b, off + k * 12 + 2, none⟩ = some (.int .i64 (psAt l k).e.q) ∧ W.cell? ⟨b, off + k * 12 + 3, none⟩ = some (.int .i64 (psAt l k).e.d) ∧ W.cell? ⟨b, off + k * 12 + 4, none⟩ = some (.int .i64 (psAt l k).e.k) ∧ W.cell? ⟨b, off + k * 12 + 5, none⟩ = some (.int .i64 (psAt l k).e.v) ∧ W.cell? ⟨b, off + k * 12 + 6, none⟩ = some (.int .i64 (psAt l k).e.g) ∧ W.cell? ⟨b, off + k * 12 + 7, none⟩ = some (u7) ∧ W.cell? ⟨b, off + k * 12 + 8, none⟩ = some (.int .i64 (psAt l k).b.q) ∧ W.cell? ⟨b, off + k * 12 + 9, none⟩ = some (.int .i64 (psAt l k).b.d) ∧ W.cell? ⟨b, off + k * 12 + 10, none⟩ = some (u10) ∧ W.cell? ⟨b, off + k * 12 + 11, none⟩ = some (u11) ∧ W.cell? ⟨b', off' + k * 12, none⟩ = some (.int .i64 (psAt l k).e.t) ∧ W.cell? ⟨b', off' + k * 12 + 1, none⟩ = some (.int .i64 (psAt l k).e.s) ∧ W.cell? ⟨b', off' + k * 12 + 2, none⟩ = some (.int .i64 (psAt l k).e.q) ∧ W.cell? ⟨b', off' + k * 12 + 3, none⟩ = some (.int .i64 (psAt l k).e.d) ∧ W.cell? ⟨b', off' + k * 12 + 4, none⟩ = some (.int .i64 (psAt l k).e.k) ∧ W.cell? ⟨b', off' + k * 12 + 5, none⟩ = some (.int .i64 (psAt l k).e.v) ∧ W.cell? ⟨b', off' + k * 12 + 6, none⟩ = some (.int .i64 (psAt l k).e.g) ∧ W.cell? ⟨b', off' + k * 12 + 7, none⟩ = some (v7) ∧ W.cell? ⟨b', off' + k * 12 + 8, none⟩ = some (.int .i64 (psAt l k).b.q) ∧ W.cell? ⟨b', off' + k * 12 + 9, none⟩ = some (.int .i64 (psAt l k).b.d) ∧ W.cell? ⟨b', off' + k * 12 + 10, none⟩ = some (v10) ∧ W.cell? ⟨b', off' + k * 12 + 11, none⟩ = some (v11)) ((repeat' apply And.intro) <;> first | (go_keep; done) | (rw [hcA _ _ (by first | omega | (simp; omega) | simp [*])]; simp [*]; done))
    (first | (go_at_call 98; refine (eqPast_same _ _ (psAt l k) _ HW.out HD.out HG.out).mono ?_; rintro e w2 ⟨rfl, hb2⟩; obtain ⟨hcA, hfA⟩ := bcell hb2))
   clear hcA hfA
   go_wp2
   go_roundw
   case rel => exact ⟨k + 1, by omega, by go_num, HB.out.drew.trans (hb2.mono (by have := HB.out.size; simpa using this))⟩
   case measure => simp [intOf]; omega
  ·clear hB h h'
   go_wp2
   go_ret
   exact ⟨rfl, HB.out⟩
end Go.Proofs.YtnccenbkpocjgaaGreat

