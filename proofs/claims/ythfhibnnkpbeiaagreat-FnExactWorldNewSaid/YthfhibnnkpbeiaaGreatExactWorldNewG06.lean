/- TPs, TPt, TPsA, TPsB, TPtA, KMl, KKr, TPtC -/
import Derived.Test.YthfhibnnkpbeiaaGreatExactWorldNewG05
import Derived.Deep.RegionHeld3
/- What was done: one event, the state ahead of it, what was sent and told; rows of it as data. -/
namespace Go.Proofs.YthfhibnnkpbeiaaGreat
open Go.RowKit
theorem sumL_add (L : Nat → Nat) (a : Nat) : ∀ b, sumL L (a + b) = sumL L a + sumL (fun i => L (a + i)) b
 | 0 => by simp [sumL]
 | b + 1 => by
  rw [← Nat.add_assoc]
  simp only [sumL]
  rw [sumL_add L a b]
  omega
theorem sumL_grid {c : Nat} {h : Nat → Nat → Nat} : ∀ n, sumL (fun j => h (j / c) (j % c)) (n * c) = sumL (fun i => sumL (fun r => h i r) c) n
 | 0 => by simp [sumL]
 | n + 1 => by
  rw [Nat.succ_mul, sumL_add, sumL_grid n]
  simp only [sumL]
  congr 1
  refine sumL_congr (fun r hr => ?_)
  rw [Nat.mul_comm n c, Nat.mul_add_div (by omega), Nat.div_eq_of_lt hr, Nat.add_zero, Nat.mul_add_mod, Nat.mod_eq_of_lt hr]
theorem sumL_mem (L : Nat → Nat) {n i : Nat} (h : i < n) : L i ≤ sumL L n := by
 have h1 := sumL_mono L (show i + 1 ≤ n from h)
 simp only [sumL] at h1
 omega
structure Ps where
 e : Ev
 b : St
 s : List Ev
 x : List Em
def psAt (l : List Ps) (i : Nat) : Ps := l.getD i ⟨⟨0, 0, 0, 0, 0, 0, 0⟩, ⟨[], 0, 0⟩, [], []⟩
def Ps.cell (p : Ps) : Nat → Dat
 | 0 => Dat.val (.int .i64 p.e.t)
 | 1 => Dat.val (.int .i64 p.e.s)
 | 2 => Dat.val (.int .i64 p.e.q)
 | 3 => Dat.val (.int .i64 p.e.d)
 | 4 => Dat.val (.int .i64 p.e.k)
 | 5 => Dat.val (.int .i64 p.e.v)
 | 6 => Dat.val (.int .i64 p.e.g)
 | 7 => intsD p.b.r
 | 8 => Dat.val (.int .i64 p.b.q)
 | 9 => Dat.val (.int .i64 p.b.d)
 | 10 => evsD p.s
 | 11 => emsD p.x
 | _ => .val (.int .i64 0)
def Ps.wt (p : Ps) : Nat := (intsD p.b.r).wt + (evsD p.s).wt + (emsD p.x).wt
def pastsD_f (l : List Ps) : Nat → Dat := fun j => (psAt l (j / 12)).cell (j % 12)
def pastsD (l : List Ps) : Dat := .row 12 l.length (pastsD_f l)
theorem pastsD_at (l : List Ps) (i : Nat) {r : Nat} (hr : r < 12) : pastsD_f l (i * 12 + r) = (psAt l i).cell r := by
 show (psAt l ((i * 12 + r) / 12)).cell ((i * 12 + r) % 12) = _
 rw [show (i * 12 + r) / 12 = i from by omega, show (i * 12 + r) % 12 = r from by omega]
theorem pastsD_wt (l : List Ps) : (pastsD l).wt = l.length + sumL (fun i => (psAt l i).wt) l.length := by
 show l.length + sumL (fun j => ((psAt l (j / 12)).cell (j % 12)).wt) (l.length * 12) = _
 rw [sumL_grid (h := fun i r => ((psAt l i).cell r).wt)]
 congr 1
 refine sumL_congr (fun i _ => ?_)
 simp only [sumL, Ps.cell, Ps.wt, Dat.wt, Nat.zero_add, Nat.add_zero]
theorem Ps.thin (p : Ps) (r : Nat) : (p.cell r).thin := by
 unfold Ps.cell
 split
 ·trivial
 ·trivial
 ·trivial
 ·trivial
 ·trivial
 ·trivial
 ·trivial
 ·exact ints_thin _
 ·trivial
 ·trivial
 ·exact evs_thin _
 ·exact ems_thin _
 ·trivial
theorem pasts_thin (l : List Ps) : (pastsD l).thin := ⟨by omega, fun j => Ps.thin (psAt l (j / 12)) (j % 12)⟩
theorem Ps.wt_le {l : List Ps} {i : Nat} (h : i < l.length) : (psAt l i).wt ≤ (pastsD l).wt := by
 rw [pastsD_wt]
 have := sumL_mem (fun i => (psAt l i).wt) h
 omega
def IsPast (w : World) (x : Value) (p : Ps) : Prop := ∃ u7 u10 u11, x = .agg #[.int .i64 p.e.t, .int .i64 p.e.s, .int .i64 p.e.q, .int .i64 p.e.d, .int .i64 p.e.k, .int .i64 p.e.v, .int .i64 p.e.g, u7, .int .i64 p.b.q, .int .i64 p.b.d, u10, u11] ∧ IsD w u7 (intsD p.b.r) ∧ IsD w u10 (evsD p.s) ∧ IsD w u11 (emsD p.x)
theorem IsPast.under {w w' : World} {x : Value} {p : Ps} (h : IsPast w x p) (hb : Below w.heap.size w w') : IsPast w' x p := by
 obtain ⟨u7, u10, u11, rfl, h7, h10, h11⟩ := h
 exact ⟨u7, u10, u11, rfl, h7.under hb, h10.under hb, h11.under hb⟩
theorem pastsD_in {w : World} {b off n : Nat} {l : List Ps} (h : ∀ j, j < n * 12 → ∃ u, w.cell? ⟨b, off + j, none⟩ = some u ∧ IsD w u ((psAt l (j / 12)).cell (j % 12))) {i : Nat} (hi : i < n) :
  ∃ u7 u10 u11, w.cell? ⟨b, off + i * 12, none⟩ = some (.int .i64 (psAt l i).e.t) ∧ w.cell? ⟨b, off + i * 12 + 1, none⟩ = some (.int .i64 (psAt l i).e.s) ∧ w.cell? ⟨b, off + i * 12 + 2, none⟩ = some (.int .i64 (psAt l i).e.q) ∧ w.cell? ⟨b, off + i * 12 + 3, none⟩ = some (.int .i64 (psAt l i).e.d) ∧ w.cell? ⟨b, off + i * 12 + 4, none⟩ = some (.int .i64 (psAt l i).e.k) ∧ w.cell? ⟨b, off + i * 12 + 5, none⟩ = some (.int .i64 (psAt l i).e.v) ∧ w.cell? ⟨b, off + i * 12 + 6, none⟩ = some (.int .i64 (psAt l i).e.g) ∧ w.cell? ⟨b, off + i * 12 + 7, none⟩ = some (u7) ∧ w.cell? ⟨b, off + i * 12 + 8, none⟩ = some (.int .i64 (psAt l i).b.q) ∧ w.cell? ⟨b, off + i * 12 + 9, none⟩ = some (.int .i64 (psAt l i).b.d) ∧ w.cell? ⟨b, off + i * 12 + 10, none⟩ = some (u10) ∧ w.cell? ⟨b, off + i * 12 + 11, none⟩ = some (u11) ∧ IsD w u7 (intsD (psAt l i).b.r) ∧ IsD w u10 (evsD (psAt l i).s) ∧ IsD w u11 (emsD (psAt l i).x) := by
 have hh : ∀ r, r < 12 → ∃ u, w.cell? ⟨b, off + i * 12 + r, none⟩ = some u ∧ IsD w u ((psAt l i).cell r) := fun r hr => by
  have := h (i * 12 + r) (by omega)
  rw [show (i * 12 + r) / 12 = i from by omega, show (i * 12 + r) % 12 = r from by omega, ← Nat.add_assoc] at this
  exact this
 obtain ⟨u0, c0, d0⟩ := hh 0 (by omega)
 obtain ⟨u1, c1, d1⟩ := hh 1 (by omega)
 obtain ⟨u2, c2, d2⟩ := hh 2 (by omega)
 obtain ⟨u3, c3, d3⟩ := hh 3 (by omega)
 obtain ⟨u4, c4, d4⟩ := hh 4 (by omega)
 obtain ⟨u5, c5, d5⟩ := hh 5 (by omega)
 obtain ⟨u6, c6, d6⟩ := hh 6 (by omega)
 obtain ⟨u7, c7, d7⟩ := hh 7 (by omega)
 obtain ⟨u8, c8, d8⟩ := hh 8 (by omega)
 obtain ⟨u9, c9, d9⟩ := hh 9 (by omega)
 obtain ⟨u10, c10, d10⟩ := hh 10 (by omega)
 obtain ⟨u11, c11, d11⟩ := hh 11 (by omega)
 obtain rfl := d0.val_eq
 obtain rfl := d1.val_eq
 obtain rfl := d2.val_eq
 obtain rfl := d3.val_eq
 obtain rfl := d4.val_eq
 obtain rfl := d5.val_eq
 obtain rfl := d6.val_eq
 obtain rfl := d8.val_eq
 obtain rfl := d9.val_eq
 exact ⟨u7, u10, u11, c0, c1, c2, c3, c4, c5, c6, c7, c8, c9, c10, c11, d7, d10, d11⟩
end Go.Proofs.YthfhibnnkpbeiaaGreat

/- A part, as plain values and as data. -/
namespace Go.Proofs.YthfhibnnkpbeiaaGreat
open Go.RowKit
structure Pa where
 n : Int
 st : St
 p : List Ps
 t : List Ev
 a : List Int
def paAt (l : List Pa) (i : Nat) : Pa := l.getD i ⟨0, ⟨[], 0, 0⟩, [], [], []⟩
def Pa.cell (p : Pa) : Nat → Dat
 | 0 => Dat.val (.int .i64 p.n)
 | 1 => intsD p.st.r
 | 2 => Dat.val (.int .i64 p.st.q)
 | 3 => Dat.val (.int .i64 p.st.d)
 | 4 => pastsD p.p
 | 5 => evsD p.t
 | 6 => intsD p.a
 | _ => .val (.int .i64 0)
def Pa.wt (p : Pa) : Nat := (intsD p.st.r).wt + (pastsD p.p).wt + (evsD p.t).wt + (intsD p.a).wt
def partsD_f (l : List Pa) : Nat → Dat := fun j => (paAt l (j / 7)).cell (j % 7)
def partsD (l : List Pa) : Dat := .row 7 l.length (partsD_f l)
theorem partsD_at (l : List Pa) (i : Nat) {r : Nat} (hr : r < 7) : partsD_f l (i * 7 + r) = (paAt l i).cell r := by
 show (paAt l ((i * 7 + r) / 7)).cell ((i * 7 + r) % 7) = _
 rw [show (i * 7 + r) / 7 = i from by omega, show (i * 7 + r) % 7 = r from by omega]
theorem partsD_wt (l : List Pa) : (partsD l).wt = l.length + sumL (fun i => (paAt l i).wt) l.length := by
 show l.length + sumL (fun j => ((paAt l (j / 7)).cell (j % 7)).wt) (l.length * 7) = _
 rw [sumL_grid (h := fun i r => ((paAt l i).cell r).wt)]
 congr 1
 refine sumL_congr (fun i _ => ?_)
 simp only [sumL, Pa.cell, Pa.wt, Dat.wt, Nat.zero_add, Nat.add_zero]
theorem Pa.thin (p : Pa) (r : Nat) : (p.cell r).thin := by
 unfold Pa.cell
 split
 ·trivial
 ·exact ints_thin _
 ·trivial
 ·trivial
 ·exact pasts_thin _
 ·exact evs_thin _
 ·exact ints_thin _
 ·trivial
theorem parts_thin (l : List Pa) : (partsD l).thin := ⟨by omega, fun j => Pa.thin (paAt l (j / 7)) (j % 7)⟩
theorem Pa.wt_le {l : List Pa} {i : Nat} (h : i < l.length) : (paAt l i).wt ≤ (partsD l).wt := by
 rw [partsD_wt]
 have := sumL_mem (fun i => (paAt l i).wt) h
 omega
def IsPart (w : World) (x : Value) (p : Pa) : Prop := ∃ u1 u4 u5 u6, x = .agg #[.int .i64 p.n, u1, .int .i64 p.st.q, .int .i64 p.st.d, u4, u5, u6] ∧ IsD w u1 (intsD p.st.r) ∧ IsD w u4 (pastsD p.p) ∧ IsD w u5 (evsD p.t) ∧ IsD w u6 (intsD p.a)
theorem IsPart.under {w w' : World} {x : Value} {p : Pa} (h : IsPart w x p) (hb : Below w.heap.size w w') : IsPart w' x p := by
 obtain ⟨u1, u4, u5, u6, rfl, h1, h4, h5, h6⟩ := h
 exact ⟨u1, u4, u5, u6, rfl, h1.under hb, h4.under hb, h5.under hb, h6.under hb⟩
theorem partsD_in {w : World} {b off n : Nat} {l : List Pa} (h : ∀ j, j < n * 7 → ∃ u, w.cell? ⟨b, off + j, none⟩ = some u ∧ IsD w u ((paAt l (j / 7)).cell (j % 7))) {i : Nat} (hi : i < n) :
  ∃ u1 u4 u5 u6, w.cell? ⟨b, off + i * 7, none⟩ = some (.int .i64 (paAt l i).n) ∧ w.cell? ⟨b, off + i * 7 + 1, none⟩ = some (u1) ∧ w.cell? ⟨b, off + i * 7 + 2, none⟩ = some (.int .i64 (paAt l i).st.q) ∧ w.cell? ⟨b, off + i * 7 + 3, none⟩ = some (.int .i64 (paAt l i).st.d) ∧ w.cell? ⟨b, off + i * 7 + 4, none⟩ = some (u4) ∧ w.cell? ⟨b, off + i * 7 + 5, none⟩ = some (u5) ∧ w.cell? ⟨b, off + i * 7 + 6, none⟩ = some (u6) ∧ IsD w u1 (intsD (paAt l i).st.r) ∧ IsD w u4 (pastsD (paAt l i).p) ∧ IsD w u5 (evsD (paAt l i).t) ∧ IsD w u6 (intsD (paAt l i).a) := by
 have hh : ∀ r, r < 7 → ∃ u, w.cell? ⟨b, off + i * 7 + r, none⟩ = some u ∧ IsD w u ((paAt l i).cell r) := fun r hr => by
  have := h (i * 7 + r) (by omega)
  rw [show (i * 7 + r) / 7 = i from by omega, show (i * 7 + r) % 7 = r from by omega, ← Nat.add_assoc] at this
  exact this
 obtain ⟨u0, c0, d0⟩ := hh 0 (by omega)
 obtain ⟨u1, c1, d1⟩ := hh 1 (by omega)
 obtain ⟨u2, c2, d2⟩ := hh 2 (by omega)
 obtain ⟨u3, c3, d3⟩ := hh 3 (by omega)
 obtain ⟨u4, c4, d4⟩ := hh 4 (by omega)
 obtain ⟨u5, c5, d5⟩ := hh 5 (by omega)
 obtain ⟨u6, c6, d6⟩ := hh 6 (by omega)
 obtain rfl := d0.val_eq
 obtain rfl := d2.val_eq
 obtain rfl := d3.val_eq
 exact ⟨u1, u4, u5, u6, c0, c1, c2, c3, c4, c5, c6, d1, d4, d5, d6⟩
end Go.Proofs.YthfhibnnkpbeiaaGreat

/- szPast, szPastS: how much there is; eqPast: two alike. -/
namespace Go.Proofs.YthfhibnnkpbeiaaGreat
open Go.RowKit
theorem hidTPsA {p : Prop} (h : p) : Hid p := h
set_option maxHeartbeats 4000000 in
theorem eqPast_same (x y : Value) (p : Ps) (w : World) (hw : p.wt ≤ 1048576) (hx : IsPast w x p) (hy : IsPast w y p) :
  Calls Tryz.prog 125 #[x, y] w fun e w' => e = .returned (.bool true) ∧ Below w.heap.size w w' := by
 obtain ⟨u7, u10, u11, rfl, h7, h10, h11⟩ := hx
 obtain ⟨v7, v10, v11, rfl, k7, k10, k11⟩ := hy
 have H7 : Hid (IsD w u7 (intsD p.b.r) ∧ IsD w v7 (intsD p.b.r)) := ⟨h7, k7⟩
 have H10 : Hid (IsD w u10 (evsD p.s) ∧ IsD w v10 (evsD p.s)) := ⟨h10, k10⟩
 have H11 : Hid (IsD w u11 (emsD p.x) ∧ IsD w v11 (emsD p.x)) := ⟨h11, k11⟩
 have HS : Hid (p.wt ≤ 1048576) := hw
 clear hw h7 k7 h10 k10 h11 k11
 obtain ⟨W0, hW0⟩ : ∃ W0, (w.alloc (.cells #[.int .i64 p.e.t, .int .i64 p.e.s, .int .i64 p.e.q, .int .i64 p.e.d, .int .i64 p.e.k, .int .i64 p.e.v, .int .i64 p.e.g, u7, .int .i64 p.b.q, .int .i64 p.b.d, u10, u11] 133)).alloc (.cells #[.int .i64 p.e.t, .int .i64 p.e.s, .int .i64 p.e.q, .int .i64 p.e.d, .int .i64 p.e.k, .int .i64 p.e.v, .int .i64 p.e.g, v7, .int .i64 p.b.q, .int .i64 p.b.d, v10, v11] 133) = W0 := ⟨_, rfl⟩
 have HB0 : Hid (Below w.heap.size w W0) := by rw [← hW0]; exact ((Below.refl _ w).alloc (Nat.le_refl _) _).alloc (by simp) _
 have HP0 : Hid (Bk W0 w.heap.size 133 #[.int .i64 p.e.t, .int .i64 p.e.s, .int .i64 p.e.q, .int .i64 p.e.d, .int .i64 p.e.k, .int .i64 p.e.v, .int .i64 p.e.g, u7, .int .i64 p.b.q, .int .i64 p.b.d, u10, u11]) := by rw [← hW0]; exact (Bk.new w _ _).alloc _
 have HQ0 : Hid (Bk W0 (w.heap.size + 1) 133 #[.int .i64 p.e.t, .int .i64 p.e.s, .int .i64 p.e.q, .int .i64 p.e.d, .int .i64 p.e.k, .int .i64 p.e.v, .int .i64 p.e.g, v7, .int .i64 p.b.q, .int .i64 p.b.d, v10, v11]) := by rw [← hW0]; exact Bk.newAt (by simp) _ _
 have HW := hidTPsA hW0
 clear hW0
 go_enter Tryz.func125, Tryz.ntmps125
 have p0 := HP0.out.cell (i := 0) rfl
 have q0 := HQ0.out.cell (i := 0) rfl
 have p1 := HP0.out.cell (i := 1) rfl
 have q1 := HQ0.out.cell (i := 1) rfl
 have p2 := HP0.out.cell (i := 2) rfl
 have q2 := HQ0.out.cell (i := 2) rfl
 have p3 := HP0.out.cell (i := 3) rfl
 have q3 := HQ0.out.cell (i := 3) rfl
 have p4 := HP0.out.cell (i := 4) rfl
 have q4 := HQ0.out.cell (i := 4) rfl
 have p5 := HP0.out.cell (i := 5) rfl
 have q5 := HQ0.out.cell (i := 5) rfl
 have p6 := HP0.out.cell (i := 6) rfl
 have q6 := HQ0.out.cell (i := 6) rfl
 go_wp2_with fail
 rw [HW.out]
 clear HW
 clear p0 q0 p1 q1 p2 q2 p3 q3 p4 q4 p5 q5 p6 q6
 refine (eqEvent_same _ _ _ _ _ _ _ _).mono ?_
 rintro e w1 ⟨rfl, hb⟩
 have HB1 := hidTPsA (HB0.out.trans (hb.mono HB0.out.size))
 have HP1 := hidTPsA (HP0.out.below hb)
 have HQ1 := hidTPsA (HQ0.out.below hb)
 clear hb
 have p7 := HP1.out.cell (i := 7) rfl
 have q7 := HQ1.out.cell (i := 7) rfl
 have p8 := HP1.out.cell (i := 8) rfl
 have q8 := HQ1.out.cell (i := 8) rfl
 have p9 := HP1.out.cell (i := 9) rfl
 have q9 := HQ1.out.cell (i := 9) rfl
 go_wp2_with fail
 clear p7 q7 p8 q8 p9 q9
 refine (eqState_same _ _ p.b _ (by have := HS.out; unfold Ps.wt at this; simp only [ems_wt, evs_wt, ints_wt] at this; omega) ⟨_, rfl, (H7.out.1.under HB1.out).isI⟩ ⟨_, rfl, (H7.out.2.under HB1.out).isI⟩).mono ?_
 rintro e w2 ⟨rfl, hb⟩
 have HB2 := hidTPsA (HB1.out.trans (hb.mono HB1.out.size))
 have HP2 := hidTPsA (HP1.out.below hb)
 have HQ2 := hidTPsA (HQ1.out.below hb)
 clear hb
 have p10 := HP2.out.cell (i := 10) rfl
 have q10 := HQ2.out.cell (i := 10) rfl
 go_wp2_with fail
 clear p10 q10
 refine (eq_evs _ _ p.s _ (by have := HS.out; unfold Ps.wt at this; simp only [ems_wt, evs_wt, ints_wt] at this; omega) (H10.out.1.under HB2.out) (H10.out.2.under HB2.out)).mono ?_
 rintro e w3 ⟨rfl, hb⟩
 have HB3 := hidTPsA (HB2.out.trans (hb.mono HB2.out.size))
 have HP3 := hidTPsA (HP2.out.below hb)
 have HQ3 := hidTPsA (HQ2.out.below hb)
 clear hb
 have p11 := HP3.out.cell (i := 11) rfl
 have q11 := HQ3.out.cell (i := 11) rfl
 go_wp2_with fail
 clear p11 q11
 refine (eq_ems _ _ p.x _ (by have := HS.out; unfold Ps.wt at this; simp only [ems_wt, evs_wt, ints_wt] at this; omega) (H11.out.1.under HB3.out) (H11.out.2.under HB3.out)).mono ?_
 rintro e w4 ⟨rfl, hb⟩
 have HB4 := hidTPsA (HB3.out.trans (hb.mono HB3.out.size))
 have HP4 := hidTPsA (HP3.out.below hb)
 have HQ4 := hidTPsA (HQ3.out.below hb)
 clear hb
 go_wp2
 go_ret
 exact ⟨rfl, HB4.out⟩
end Go.Proofs.YthfhibnnkpbeiaaGreat

/- eqPastS: two rows alike. -/
namespace Go.Proofs.YthfhibnnkpbeiaaGreat
open Go.RowKit
theorem hidTPsB {p : Prop} (h : p) : Hid p := h
set_option maxHeartbeats 8000000 in
theorem eq_pasts (x y : Value) (l : List Ps) (w : World) (hl : (pastsD l).wt ≤ 1048576) (hx : IsD w x (pastsD l)) (hy : IsD w y (pastsD l)) :
  Calls Tryz.prog 109 #[x, y] w fun e w' => e = .returned (.bool true) ∧ Below w.heap.size w w' := by
 obtain ⟨a, cap, rfl, h1, h2, h⟩ := IsD.parts (c := 12) (n := l.length) hx
 obtain ⟨a', cap', rfl, h1', h2', h'⟩ := IsD.parts (c := 12) (n := l.length) hy
 have HS := hidTPsB hl
 have hl2 : l.length ≤ 1048576 := by rw [pastsD_wt] at hl; omega
 clear h1 h2 h1' h2' hx hy hl
 go_enter Tryz.func109, Tryz.ntmps109
 go_wp2
 go_loopw [5] (fun i wr => ∃ k : Nat, k ≤ l.length ∧ i = .int .i64 k ∧ Below w.heap.size w wr) (fun i _ => l.length - (intOf i).toNat)
 case atStart => exact ⟨0, Nat.zero_le _, rfl, Below.refl _ _⟩
 case round =>
  obtain ⟨k, hk, rfl, hB⟩ := hrel
  have HB := hidTPsB hB
  by_cases hlt : k < l.length
  ·obtain ⟨b, off, rfl, hb, hc⟩ := h.resolve_left (by omega)
   obtain ⟨b', off', rfl, hb', hc'⟩ := h'.resolve_left (by omega)
   obtain ⟨u7, u10, u11, f0, f1, f2, f3, f4, f5, f6, f7, f8, f9, f10, f11, d7, d10, d11⟩ := pastsD_in (fun j hj => by
    obtain ⟨u, hu, hd⟩ := hc j hj
    exact ⟨u, (hB.cell (p := ⟨b, off + j, none⟩) hb).trans hu, hd.under hB⟩) hlt
   obtain ⟨v7, v10, v11, e0, e1, e2, e3, e4, e5, e6, e7, e8, e9, e10, e11, g7, g10, g11⟩ := pastsD_in (fun j hj => by
    obtain ⟨u, hu, hd⟩ := hc' j hj
    exact ⟨u, (hB.cell (p := ⟨b', off' + j, none⟩) hb').trans hu, hd.under hB⟩) hlt
   have HD := hidTPsB (IsPast.under (w := wr) ⟨u7, u10, u11, rfl, d7, d10, d11⟩ (Below.refl _ wr).drew)
   have HG := hidTPsB (IsPast.under (w := wr) ⟨v7, v10, v11, rfl, g7, g10, g11⟩ (Below.refl _ wr).drew)
   have HW := hidTPsB (Nat.le_trans (Ps.wt_le hlt) HS.out)
   have hbr : b < wr.heap.size := Nat.lt_of_lt_of_le hb hB.size
   have hbr' : b' < wr.heap.size := Nat.lt_of_lt_of_le hb' hB.size
   clear hB hc hc' h h' d7 d10 d11 g7 g10 g11
   go_wp2_with fail
   go_region_held3 (fun W => W.cell? ⟨b, off + k * 12, none⟩ = some (.int .i64 (psAt l k).e.t) ∧ W.cell? ⟨b, off + k * 12 + 1, none⟩ = some (.int .i64 (psAt l k).e.s) ∧ W.cell? ⟨b, off + k * 12 + 2, none⟩ = some (.int .i64 (psAt l k).e.q) ∧ W.cell? ⟨b, off + k * 12 + 3, none⟩ = some (.int .i64 (psAt l k).e.d) ∧ W.cell? ⟨b, off + k * 12 + 4, none⟩ = some (.int .i64 (psAt l k).e.k) ∧ W.cell? ⟨b, off + k * 12 + 5, none⟩ = some (.int .i64 (psAt l k).e.v) ∧ W.cell? ⟨b, off + k * 12 + 6, none⟩ = some (.int .i64 (psAt l k).e.g) ∧ W.cell? ⟨b, off + k * 12 + 7, none⟩ = some (u7) ∧ W.cell? ⟨b, off + k * 12 + 8, none⟩ = some (.int .i64 (psAt l k).b.q) ∧ W.cell? ⟨b, off + k * 12 + 9, none⟩ = some (.int .i64 (psAt l k).b.d) ∧ W.cell? ⟨b, off + k * 12 + 10, none⟩ = some (u10) ∧ W.cell? ⟨b, off + k * 12 + 11, none⟩ = some (u11) ∧ W.cell? ⟨b', off' + k * 12, none⟩ = some (.int .i64 (psAt l k).e.t) ∧ W.cell? ⟨b', off' + k * 12 + 1, none⟩ = some (.int .i64 (psAt l k).e.s) ∧ W.cell? ⟨b', off' + k * 12 + 2, none⟩ = some (.int .i64 (psAt l k).e.q) ∧ W.cell? ⟨b', off' + k * 12 + 3, none⟩ = some (.int .i64 (psAt l k).e.d) ∧ W.cell? ⟨b', off' + k * 12 + 4, none⟩ = some (.int .i64 (psAt l k).e.k) ∧ W.cell? ⟨b', off' + k * 12 + 5, none⟩ = some (.int .i64 (psAt l k).e.v) ∧ W.cell? ⟨b', off' + k * 12 + 6, none⟩ = some (.int .i64 (psAt l k).e.g) ∧ W.cell? ⟨b', off' + k * 12 + 7, none⟩ = some (v7) ∧ W.cell? ⟨b', off' + k * 12 + 8, none⟩ = some (.int .i64 (psAt l k).b.q) ∧ W.cell? ⟨b', off' + k * 12 + 9, none⟩ = some (.int .i64 (psAt l k).b.d) ∧ W.cell? ⟨b', off' + k * 12 + 10, none⟩ = some (v10) ∧ W.cell? ⟨b', off' + k * 12 + 11, none⟩ = some (v11)) ((repeat' apply And.intro) <;> first | (go_keep; done) | (rw [hcA _ _ (by first | omega | (simp; omega) | simp [*])]; simp [*]; done))
    (first | (go_at_call 125; refine (eqPast_same _ _ (psAt l k) _ HW.out HD.out HG.out).mono ?_; rintro e w2 ⟨rfl, hb2⟩; obtain ⟨hcA, hfA⟩ := bcell hb2))
   clear hcA hfA
   go_wp2
   go_roundw
   case rel => exact ⟨k + 1, by omega, by go_num, HB.out.drew.trans (hb2.mono (by have := HB.out.size; simpa using this))⟩
   case measure => simp [intOf]; omega
  ·clear hB h h'
   go_wp2
   go_ret
   exact ⟨rfl, HB.out⟩
end Go.Proofs.YthfhibnnkpbeiaaGreat

/- szPart, eqPart. -/
namespace Go.Proofs.YthfhibnnkpbeiaaGreat
open Go.RowKit
theorem hidTPtA {p : Prop} (h : p) : Hid p := h
set_option maxHeartbeats 4000000 in
theorem eqPart_same (x y : Value) (p : Pa) (w : World) (hw : p.wt ≤ 1048576) (hx : IsPart w x p) (hy : IsPart w y p) :
  Calls Tryz.prog 83 #[x, y] w fun e w' => e = .returned (.bool true) ∧ Below w.heap.size w w' := by
 obtain ⟨u1, u4, u5, u6, rfl, h1, h4, h5, h6⟩ := hx
 obtain ⟨v1, v4, v5, v6, rfl, k1, k4, k5, k6⟩ := hy
 have H1 : Hid (IsD w u1 (intsD p.st.r) ∧ IsD w v1 (intsD p.st.r)) := ⟨h1, k1⟩
 have H4 : Hid (IsD w u4 (pastsD p.p) ∧ IsD w v4 (pastsD p.p)) := ⟨h4, k4⟩
 have H5 : Hid (IsD w u5 (evsD p.t) ∧ IsD w v5 (evsD p.t)) := ⟨h5, k5⟩
 have H6 : Hid (IsD w u6 (intsD p.a) ∧ IsD w v6 (intsD p.a)) := ⟨h6, k6⟩
 have HS : Hid (p.wt ≤ 1048576) := hw
 clear hw h1 k1 h4 k4 h5 k5 h6 k6
 obtain ⟨W0, hW0⟩ : ∃ W0, (w.alloc (.cells #[.int .i64 p.n, u1, .int .i64 p.st.q, .int .i64 p.st.d, u4, u5, u6] 70)).alloc (.cells #[.int .i64 p.n, v1, .int .i64 p.st.q, .int .i64 p.st.d, v4, v5, v6] 70) = W0 := ⟨_, rfl⟩
 have HB0 : Hid (Below w.heap.size w W0) := by rw [← hW0]; exact ((Below.refl _ w).alloc (Nat.le_refl _) _).alloc (by simp) _
 have HP0 : Hid (Bk W0 w.heap.size 70 #[.int .i64 p.n, u1, .int .i64 p.st.q, .int .i64 p.st.d, u4, u5, u6]) := by rw [← hW0]; exact (Bk.new w _ _).alloc _
 have HQ0 : Hid (Bk W0 (w.heap.size + 1) 70 #[.int .i64 p.n, v1, .int .i64 p.st.q, .int .i64 p.st.d, v4, v5, v6]) := by rw [← hW0]; exact Bk.newAt (by simp) _ _
 have HW := hidTPtA hW0
 clear hW0
 go_enter Tryz.func83, Tryz.ntmps83
 have p0 := HP0.out.cell (i := 0) rfl
 have q0 := HQ0.out.cell (i := 0) rfl
 have p1 := HP0.out.cell (i := 1) rfl
 have q1 := HQ0.out.cell (i := 1) rfl
 have p2 := HP0.out.cell (i := 2) rfl
 have q2 := HQ0.out.cell (i := 2) rfl
 have p3 := HP0.out.cell (i := 3) rfl
 have q3 := HQ0.out.cell (i := 3) rfl
 go_wp2_with fail
 rw [HW.out]
 clear HW
 clear p0 q0 p1 q1 p2 q2 p3 q3
 refine (eqState_same _ _ p.st _ (by have := HS.out; unfold Pa.wt at this; simp only [evs_wt, ints_wt] at this; omega) ⟨_, rfl, (H1.out.1.under HB0.out).isI⟩ ⟨_, rfl, (H1.out.2.under HB0.out).isI⟩).mono ?_
 rintro e w1 ⟨rfl, hb⟩
 have HB1 := hidTPtA (HB0.out.trans (hb.mono HB0.out.size))
 have HP1 := hidTPtA (HP0.out.below hb)
 have HQ1 := hidTPtA (HQ0.out.below hb)
 clear hb
 have p4 := HP1.out.cell (i := 4) rfl
 have q4 := HQ1.out.cell (i := 4) rfl
 go_wp2_with fail
 clear p4 q4
 refine (eq_pasts _ _ p.p _ (by have := HS.out; unfold Pa.wt at this; simp only [evs_wt, ints_wt] at this; omega) (H4.out.1.under HB1.out) (H4.out.2.under HB1.out)).mono ?_
 rintro e w2 ⟨rfl, hb⟩
 have HB2 := hidTPtA (HB1.out.trans (hb.mono HB1.out.size))
 have HP2 := hidTPtA (HP1.out.below hb)
 have HQ2 := hidTPtA (HQ1.out.below hb)
 clear hb
 have p5 := HP2.out.cell (i := 5) rfl
 have q5 := HQ2.out.cell (i := 5) rfl
 go_wp2_with fail
 clear p5 q5
 refine (eq_evs _ _ p.t _ (by have := HS.out; unfold Pa.wt at this; simp only [evs_wt, ints_wt] at this; omega) (H5.out.1.under HB2.out) (H5.out.2.under HB2.out)).mono ?_
 rintro e w3 ⟨rfl, hb⟩
 have HB3 := hidTPtA (HB2.out.trans (hb.mono HB2.out.size))
 have HP3 := hidTPtA (HP2.out.below hb)
 have HQ3 := hidTPtA (HQ2.out.below hb)
 clear hb
 have p6 := HP3.out.cell (i := 6) rfl
 have q6 := HQ3.out.cell (i := 6) rfl
 go_wp2_with fail
 clear p6 q6
 refine (eq_ints _ _ p.a _ (by have := HS.out; unfold Pa.wt at this; simp only [evs_wt, ints_wt] at this; omega) (H6.out.1.under HB3.out) (H6.out.2.under HB3.out)).mono ?_
 rintro e w4 ⟨rfl, hb⟩
 have HB4 := hidTPtA (HB3.out.trans (hb.mono HB3.out.size))
 have HP4 := hidTPtA (HP3.out.below hb)
 have HQ4 := hidTPtA (HQ3.out.below hb)
 clear hb
 go_wp2
 go_ret
 exact ⟨rfl, HB4.out⟩
end Go.Proofs.YthfhibnnkpbeiaaGreat

/- Mails as plain values and as cells; rows of them: how much there is, two alike, a copy of its own. -/
namespace Go.Proofs.YthfhibnnkpbeiaaGreat
open Go.RowKit
theorem hidKMl {p : Prop} (h : p) : Hid p := h
structure Ml where
 e : Ev
 a : Bool
def mlAt (l : List Ml) (i : Nat) : Ml := l.getD i ⟨⟨0, 0, 0, 0, 0, 0, 0⟩, false⟩
def Ml.cs (m : Ml) : List Value := [.int .i64 m.e.t, .int .i64 m.e.s, .int .i64 m.e.q, .int .i64 m.e.d, .int .i64 m.e.k, .int .i64 m.e.v, .int .i64 m.e.g, .bool m.a]
def cellsMl : List Ml → List Value
 | [] => []
 | e :: l => e.cs ++ cellsMl l
theorem mlAt_cons_succ (e : Ml) (l : List Ml) (i : Nat) : mlAt (e :: l) (i + 1) = mlAt l i := by simp [mlAt]
theorem cellsMl_get : ∀ (l : List Ml) (i r : Nat), i < l.length → r < 8 → (cellsMl l)[i * 8 + r]? = (mlAt l i).cs[r]?
 | [], _, _, h, _ => by simp at h
 | e :: l, 0, r, _, hr => by
  have : r < e.cs.length := by simpa [Ml.cs] using hr
  simp only [cellsMl, Nat.zero_mul, Nat.zero_add]
  rw [List.getElem?_append_left this]
  simp [mlAt]
 | e :: l, i + 1, r, h, hr => by
  have h1 := cellsMl_get l i r (by simpa using h) hr
  have : e.cs.length ≤ (i + 1) * 8 + r := by simp [Ml.cs]; omega
  simp only [cellsMl]
  rw [List.getElem?_append_right this, mlAt_cons_succ, ← h1]
  congr 1
  simp [Ml.cs]; omega
structure MlAt (w : World) (b o : Nat) (m : Ml) : Prop where
 f0 : w.cell? ⟨b, o, none⟩ = some (.int .i64 m.e.t)
 f1 : w.cell? ⟨b, o + 1, none⟩ = some (.int .i64 m.e.s)
 f2 : w.cell? ⟨b, o + 2, none⟩ = some (.int .i64 m.e.q)
 f3 : w.cell? ⟨b, o + 3, none⟩ = some (.int .i64 m.e.d)
 f4 : w.cell? ⟨b, o + 4, none⟩ = some (.int .i64 m.e.k)
 f5 : w.cell? ⟨b, o + 5, none⟩ = some (.int .i64 m.e.v)
 f6 : w.cell? ⟨b, o + 6, none⟩ = some (.int .i64 m.e.g)
 f7 : w.cell? ⟨b, o + 7, none⟩ = some (.bool m.a)
theorem MlAt.below {w w' : World} {B b o : Nat} {m : Ml} (h : MlAt w b o m) (hb : Below B w w') (hlt : b < B) : MlAt w' b o m :=
 ⟨(hb.cell hlt).trans h.f0, (hb.cell hlt).trans h.f1, (hb.cell hlt).trans h.f2, (hb.cell hlt).trans h.f3, (hb.cell hlt).trans h.f4, (hb.cell hlt).trans h.f5, (hb.cell hlt).trans h.f6, (hb.cell hlt).trans h.f7⟩
def MlsAt (w : World) (b off : Nat) (l : List Ml) : Prop := b < w.heap.size ∧ ∀ i, i < l.length → MlAt w b (off + i * 8) (mlAt l i)
def IsMl (w : World) (x : Value) (l : List Ml) : Prop := ∃ a cap, x = .slice a l.length cap ∧ l.length ≤ cap ∧ cap ≤ maxLen ∧ (l = [] ∨ ∃ b off, a = some ⟨b, off, none⟩ ∧ MlsAt w b off l)
def mailsD (l : List Ml) : Dat := flat 8 l.length (cellsMl l)
theorem IsD.isMl {w : World} {x : Value} {l : List Ml} (h : IsD w x (mailsD l)) : IsMl w x l := by
 obtain ⟨a, cap, rfl, h1, h2, h⟩ := IsD.parts (c := 8) (n := l.length) h
 refine ⟨a, cap, rfl, h1, h2, h.imp List.eq_nil_of_length_eq_zero ?_⟩
 rintro ⟨b, off, rfl, hb, hc⟩
 refine ⟨b, off, rfl, hb, fun i hi => ?_⟩
 have hget : ∀ r, r < 8 → w.cell? ⟨b, off + i * 8 + r, none⟩ = (mlAt l i).cs[r]? := fun r hr => by
  obtain ⟨u, hu, hd⟩ := hc (i * 8 + r) (by omega)
  rw [Nat.add_assoc, hu, hd.val_eq]
  have hg := cellsMl_get l i r hi hr
  have : r < (mlAt l i).cs.length := by simpa [Ml.cs] using hr
  rw [List.getElem?_eq_getElem this] at hg ⊢
  rw [getD_of hg]
 exact ⟨hget 0 (by omega), hget 1 (by omega), hget 2 (by omega), hget 3 (by omega), hget 4 (by omega), hget 5 (by omega), hget 6 (by omega), hget 7 (by omega)⟩
theorem mails_wt (l : List Ml) : (mailsD l).wt = l.length := flat_wt _ _ _
theorem mails_thin (l : List Ml) : (mailsD l).thin := flat_thin (by omega)
set_option maxHeartbeats 1000000 in
theorem eqMail_same (t s q d k v g : Int) (b : Bool) (w : World) :
  Calls Tryz.prog 84 #[.agg #[.int .i64 t, .int .i64 s, .int .i64 q, .int .i64 d, .int .i64 k, .int .i64 v, .int .i64 g, .bool b], .agg #[.int .i64 t, .int .i64 s, .int .i64 q, .int .i64 d, .int .i64 k, .int .i64 v, .int .i64 g, .bool b]] w fun e w' => e = .returned (.bool true) ∧ Below w.heap.size w w' := by
 obtain ⟨W0, hW0⟩ : ∃ V, (w.alloc (.cells #[.int .i64 t, .int .i64 s, .int .i64 q, .int .i64 d, .int .i64 k, .int .i64 v, .int .i64 g, .bool b] 122)).alloc (.cells #[.int .i64 t, .int .i64 s, .int .i64 q, .int .i64 d, .int .i64 k, .int .i64 v, .int .i64 g, .bool b] 122) = V := ⟨_, rfl⟩
 have hb0 : Below w.heap.size w W0 := hW0 ▸ ((Below.refl _ w).alloc (Nat.le_refl _) _).alloc (by simp) _
 have HB0 := hidKMl hb0
 have B1 : Hid (Bk W0 w.heap.size 122 #[.int .i64 t, .int .i64 s, .int .i64 q, .int .i64 d, .int .i64 k, .int .i64 v, .int .i64 g, .bool b]) := hW0 ▸ (Bk.new w _ _).alloc _
 have B2 : Hid (Bk W0 (w.heap.size + 1) 122 #[.int .i64 t, .int .i64 s, .int .i64 q, .int .i64 d, .int .i64 k, .int .i64 v, .int .i64 g, .bool b]) := hW0 ▸ Bk.newAt (by simp) _ _
 clear hb0
 have x0 := B1.out.cell (i := 0) rfl
 have x1 := B1.out.cell (i := 1) rfl
 have x2 := B1.out.cell (i := 2) rfl
 have x3 := B1.out.cell (i := 3) rfl
 have x4 := B1.out.cell (i := 4) rfl
 have x5 := B1.out.cell (i := 5) rfl
 have x6 := B1.out.cell (i := 6) rfl
 have y0 := B2.out.cell (i := 0) rfl
 have y1 := B2.out.cell (i := 1) rfl
 have y2 := B2.out.cell (i := 2) rfl
 have y3 := B2.out.cell (i := 3) rfl
 have y4 := B2.out.cell (i := 4) rfl
 have y5 := B2.out.cell (i := 5) rfl
 have y6 := B2.out.cell (i := 6) rfl
 go_enter Tryz.func84, Tryz.ntmps84
 go_wp2_with fail
 clear hW0 x0 y0 x1 y1 x2 y2 x3 y3 x4 y4 x5 y5 x6 y6
 refine (eqEvent_same _ _ _ _ _ _ _ _).mono ?_
 rintro r w1 ⟨rfl, hb⟩
 have x7 := (B1.out.below hb).cell (i := 7) rfl
 have y7 := (B2.out.below hb).cell (i := 7) rfl
 have HB1 := hidKMl (HB0.out.trans (hb.mono HB0.out.size))
 clear hb
 cases b <;> (go_wp2; go_ret; exact ⟨rfl, HB1.out⟩)
set_option maxHeartbeats 1000000 in
theorem eqMl_same (x y : Value) (l : List Ml) (w : World) (hl : l.length ≤ 1048576) (hx : IsMl w x l) (hy : IsMl w y l) :
  Calls Tryz.prog 37 #[x, y] w fun e w' => e = .returned (.bool true) ∧ Below w.heap.size w w' := by
 obtain ⟨a, cap, rfl, h1, h2, h⟩ := hx
 obtain ⟨a', cap', rfl, h1', h2', h'⟩ := hy
 clear h1 h2 h1' h2'
 by_cases hz : l = []
 ·subst hz
  clear h h'
  go_enter Tryz.func37, Tryz.ntmps37
  go_wp2
  go_loop [5] (fun i => i = .int .i64 0) (fun _ => 0)
  case atStart => rfl
  case round =>
   subst hrel
   go_wp2
   go_ret
   exact ⟨rfl, Below.refl _ _⟩
 ·obtain ⟨b, off, rfl, hb, hc⟩ := h.resolve_left hz
  obtain ⟨b', off', rfl, hb', hc'⟩ := h'.resolve_left hz
  clear h h' hz
  go_enter Tryz.func37, Tryz.ntmps37
  go_wp2
  go_loopw [5] (fun i wr => ∃ k : Nat, k ≤ l.length ∧ i = .int .i64 k ∧ Below w.heap.size w wr) (fun i _ => l.length - (intOf i).toNat)
  case atStart => exact ⟨0, Nat.zero_le _, rfl, Below.refl _ _⟩
  case round =>
   obtain ⟨k, hk, rfl, hB⟩ := hrel
   have HB := hidKMl hB
   by_cases hlt : k < l.length
   ·obtain ⟨f0, f1, f2, f3, f4, f5, f6, f7⟩ := (hc k hlt).below hB hb
    obtain ⟨e0, e1, e2, e3, e4, e5, e6, e7⟩ := (hc' k hlt).below hB hb'
    have hbr : b < wr.heap.size := Nat.lt_of_lt_of_le hb hB.size
    have hbr' : b' < wr.heap.size := Nat.lt_of_lt_of_le hb' hB.size
    clear hB hc hc'
    go_wp2_with fail
    go_region_held3 (fun W => W.cell? ⟨b, off + k * 8, none⟩ = some (.int .i64 (mlAt l k).e.t) ∧ W.cell? ⟨b, off + k * 8 + 1, none⟩ = some (.int .i64 (mlAt l k).e.s) ∧ W.cell? ⟨b, off + k * 8 + 2, none⟩ = some (.int .i64 (mlAt l k).e.q) ∧ W.cell? ⟨b, off + k * 8 + 3, none⟩ = some (.int .i64 (mlAt l k).e.d) ∧ W.cell? ⟨b, off + k * 8 + 4, none⟩ = some (.int .i64 (mlAt l k).e.k) ∧ W.cell? ⟨b, off + k * 8 + 5, none⟩ = some (.int .i64 (mlAt l k).e.v) ∧ W.cell? ⟨b, off + k * 8 + 6, none⟩ = some (.int .i64 (mlAt l k).e.g) ∧ W.cell? ⟨b, off + k * 8 + 7, none⟩ = some (.bool (mlAt l k).a) ∧ W.cell? ⟨b', off' + k * 8, none⟩ = some (.int .i64 (mlAt l k).e.t) ∧ W.cell? ⟨b', off' + k * 8 + 1, none⟩ = some (.int .i64 (mlAt l k).e.s) ∧ W.cell? ⟨b', off' + k * 8 + 2, none⟩ = some (.int .i64 (mlAt l k).e.q) ∧ W.cell? ⟨b', off' + k * 8 + 3, none⟩ = some (.int .i64 (mlAt l k).e.d) ∧ W.cell? ⟨b', off' + k * 8 + 4, none⟩ = some (.int .i64 (mlAt l k).e.k) ∧ W.cell? ⟨b', off' + k * 8 + 5, none⟩ = some (.int .i64 (mlAt l k).e.v) ∧ W.cell? ⟨b', off' + k * 8 + 6, none⟩ = some (.int .i64 (mlAt l k).e.g) ∧ W.cell? ⟨b', off' + k * 8 + 7, none⟩ = some (.bool (mlAt l k).a)) ((repeat' apply And.intro) <;> first | (go_keep; done) | (rw [hcA _ _ (by first | omega | (simp; omega) | simp [*])]; simp [*]; done))
     (first | (go_at_call 84; refine (eqMail_same _ _ _ _ _ _ _ _ _).mono ?_; rintro e w2 ⟨rfl, hb2⟩; obtain ⟨hcA, hfA⟩ := bcell hb2))
    clear hcA hfA
    go_wp2
    go_roundw
    case rel => exact ⟨k + 1, by omega, by go_num, HB.out.drew.trans (hb2.mono (by have := HB.out.size; simpa using this))⟩
    case measure => simp [intOf]; omega
   ·clear hB hc hc'
    go_wp2
    go_ret
    exact ⟨rfl, HB.out⟩
theorem eq_mails (x y : Value) (l : List Ml) (w : World) (hl : l.length ≤ 1048576) (hx : IsD w x (mailsD l)) (hy : IsD w y (mailsD l)) :
  Calls Tryz.prog 37 #[x, y] w fun e w' => e = .returned (.bool true) ∧ Below w.heap.size w w' :=
 eqMl_same x y l w hl hx.isMl hy.isMl
end Go.Proofs.YthfhibnnkpbeiaaGreat

/- A kernel, as plain values and in memory; how much there is of it. -/
namespace Go.Proofs.YthfhibnnkpbeiaaGreat
open Go.RowKit
structure Kn where
 m : Md
 d : List Int
 p : List Pa
 b : List Ml
 t : Int
 q : Int
 f : Bool
 s : List Ev
 x : List Em
def Kn.wt (k : Kn) : Nat := (intsD k.d).wt + (partsD k.p).wt + (mailsD k.b).wt + (evsD k.s).wt + (emsD k.x).wt
def SmallK (k : Kn) : Prop := SmallM k.m ∧ k.wt ≤ 1048576
def IsKern (w : World) (x : Value) (k : Kn) : Prop := ∃ vi vh vs u6 u7 u8 u12 u13, x = .agg #[.int .i64 k.m.n, .int .i64 k.m.s, vi, vh, vs, .int .i64 k.m.z, u6, u7, u8, .int .i64 k.t, .int .i64 k.q, .bool k.f, u12, u13] ∧ IsM w (.agg #[.int .i64 k.m.n, .int .i64 k.m.s, vi, vh, vs, .int .i64 k.m.z]) k.m ∧ IsD w u6 (intsD k.d) ∧ IsD w u7 (partsD k.p) ∧ IsD w u8 (mailsD k.b) ∧ IsD w u12 (evsD k.s) ∧ IsD w u13 (emsD k.x)
theorem IsKern.under {w w' : World} {x : Value} {k : Kn} (h : IsKern w x k) (hb : Below w.heap.size w w') : IsKern w' x k := by
 obtain ⟨vi, vh, vs, u6, u7, u8, u12, u13, rfl, hm, h6, h7, h8, h12, h13⟩ := h
 exact ⟨vi, vh, vs, u6, u7, u8, u12, u13, rfl, hm.below hb, h6.under hb, h7.under hb, h8.under hb, h12.under hb, h13.under hb⟩
end Go.Proofs.YthfhibnnkpbeiaaGreat

/- toPart: a copy of its own. -/
namespace Go.Proofs.YthfhibnnkpbeiaaGreat
open Go.RowKit
def PartF (F : Nat → Prop) (w : World) (y : Value) (p : Pa) : Prop :=
 ∃ (A1 A4 A5 A6 : Nat → Prop) (u1 u4 u5 u6 : Value), y = .agg #[.int .i64 p.n, u1, .int .i64 p.st.q, .int .i64 p.st.d, u4, u5, u6] ∧ OwnD w A1 u1 (intsD p.st.r) ∧ OwnD w A4 u4 (pastsD p.p) ∧ OwnD w A5 u5 (evsD p.t) ∧ OwnD w A6 u6 (intsD p.a) ∧ (∀ k, A1 k → F k ∧ ¬ A4 k ∧ ¬ A5 k ∧ ¬ A6 k) ∧ (∀ k, A4 k → F k ∧ ¬ A5 k ∧ ¬ A6 k) ∧ (∀ k, A5 k → F k ∧ ¬ A6 k) ∧ (∀ k, A6 k → F k)
theorem PartF.turns {F S : Nat → Prop} {w w' : World} {y : Value} {p : Pa} (h : PartF F w y p) (ht : Turns S w w') (hS : ∀ k, F k → ¬ S k) : PartF F w' y p := by
 obtain ⟨A1, A4, A5, A6, u1, u4, u5, u6, rfl, h1, h4, h5, h6, d1, d4, d5, d6⟩ := h
 exact ⟨A1, A4, A5, A6, u1, u4, u5, u6, rfl, h1.turns ht (fun k hk => hS k (d1 k hk).1), h4.turns ht (fun k hk => hS k (d4 k hk).1), h5.turns ht (fun k hk => hS k (d5 k hk).1), h6.turns ht (fun k hk => hS k (d6 k hk)), d1, d4, d5, d6⟩
theorem PartF.under {F : Nat → Prop} {w w' : World} {y : Value} {p : Pa} (h : PartF F w y p) (hb : Below w.heap.size w w') : PartF F w' y p :=
 h.turns (S := fun _ => False) (Turns.of_below hb) (fun _ _ => id)
theorem PartF.mono {F F' : Nat → Prop} {w : World} {y : Value} {p : Pa} (h : PartF F w y p) (hF : ∀ k, F k → F' k) : PartF F' w y p := by
 obtain ⟨A1, A4, A5, A6, u1, u4, u5, u6, rfl, h1, h4, h5, h6, d1, d4, d5, d6⟩ := h
 exact ⟨A1, A4, A5, A6, u1, u4, u5, u6, rfl, h1, h4, h5, h6, fun k hk => ⟨hF k (d1 k hk).1, (d1 k hk).2⟩, fun k hk => ⟨hF k (d4 k hk).1, (d4 k hk).2⟩, fun k hk => ⟨hF k (d5 k hk).1, (d5 k hk).2⟩, fun k hk => hF k (d6 k hk)⟩
theorem PartF.form {F : Nat → Prop} {w : World} {y : Value} {p : Pa} (h : PartF F w y p) : ∃ a1 c1 a4 c4 a5 c5 a6 c6, y = .agg #[.int .i64 p.n, .slice a1 p.st.r.length c1, .int .i64 p.st.q, .int .i64 p.st.d, .slice a4 p.p.length c4, .slice a5 p.t.length c5, .slice a6 p.a.length c6] := by
 obtain ⟨A1, A4, A5, A6, u1, u4, u5, u6, rfl, h1, h4, h5, h6, d1, d4, d5, d6⟩ := h
 obtain ⟨a1, c1, rfl, _⟩ := OwnD.parts (c := 1) (n := p.st.r.length) h1
 obtain ⟨a4, c4, rfl, _⟩ := OwnD.parts (c := 12) (n := p.p.length) h4
 obtain ⟨a5, c5, rfl, _⟩ := OwnD.parts (c := 7) (n := p.t.length) h5
 obtain ⟨a6, c6, rfl, _⟩ := OwnD.parts (c := 1) (n := p.a.length) h6
 exact ⟨a1, c1, a4, c4, a5, c5, a6, c6, rfl⟩
end Go.Proofs.YthfhibnnkpbeiaaGreat

