/- KNa, WDat, KDa -/
import Derived.Test.YthfhibnnkpbeiaaGreatExactWorldNewG26
import Derived.Test.YthfhibnnkpbeiaaGreatExactWorldNewG07
import Derived.Test.YthfhibnnkpbeiaaGreatExactWorldNewG06
/- What KernelNew answers. -/
namespace Go.Proofs.YthfhibnnkpbeiaaGreat
open Go.RowKit
def kn0 : Kn := ⟨⟨0, 0, [], [], [], 0⟩, [], [], [], 0, 0, false, [], []⟩
def kOk (m : Md) (d : List Int) : Bool := m.ok && vok d
def kernA (m : Md) (d : List Int) : Kn := if kOk m d = true then newK m d else kn0
theorem kern_no {m : Md} {d : List Int} (h : kOk m d = false) : kernA m d = kn0 := by unfold kernA; rw [if_neg (by rw [h]; simp)]
theorem kern_yes {m : Md} {d : List Int} (h : kOk m d = true) : kernA m d = newK m d := by unfold kernA; rw [if_pos h]
theorem md0_own (w : World) : MdF (fun _ => False) w (.agg #[.int .i64 0, .int .i64 0, .slice none 0 0, .slice none 0 0, .slice none 0 0, .int .i64 0]) ⟨0, 0, [], [], [], 0⟩ :=
 ⟨fun _ => False, fun _ => False, fun _ => False, _, _, _, rfl, ⟨rfl, _, _, rfl, Nat.le_refl _, Nat.zero_le _, .inl rfl⟩, ⟨fun _ => .int .i64 0, fun _ => False, fun _ _ => False, ⟨rfl, _, _, rfl, Nat.le_refl _, Nat.zero_le _, .inl rfl⟩, fun _ h => h, fun i hi => by simp at hi, fun i j hi => by simp at hi⟩, ⟨rfl, _, _, rfl, Nat.le_refl _, Nat.zero_le _, .inl rfl⟩, fun _ h => h.elim, fun _ h => h.elim, fun _ h => h.elim⟩
theorem kn0_own (F : Nat → Prop) (w : World) : KernF F w (.agg #[.int .i64 0, .int .i64 0, .slice none 0 0, .slice none 0 0, .slice none 0 0, .int .i64 0, .slice none 0 0, .slice none 0 0, .slice none 0 0, .int .i64 0, .int .i64 0, .bool false, .slice none 0 0, .slice none 0 0]) kn0 :=
 ⟨fun _ => False, fun _ => False, fun _ => False, fun _ => False, fun _ => False, fun _ => False, _, _, _, _, _, _, _, _, rfl, md0_own w, .nil _ _ _ _ _ (Nat.zero_le _), .nil _ _ _ _ _ (Nat.zero_le _), .nil _ _ _ _ _ (Nat.zero_le _), .nil _ _ _ _ _ (Nat.zero_le _), .nil _ _ _ _ _ (Nat.zero_le _), fun _ h => h.elim, fun _ h => h.elim, fun _ h => h.elim, fun _ h => h.elim, fun _ h => h.elim, fun _ h => h.elim⟩
end Go.Proofs.YthfhibnnkpbeiaaGreat

/- A world, as plain values and in memory; how much there is of it. -/
namespace Go.Proofs.YthfhibnnkpbeiaaGreat
open Go.RowKit
def knAt (l : List Kn) (i : Nat) : Kn := l.getD i kn0
def vAt (l : List (List Int)) (i : Nat) : List Int := l.getD i []
def vecsD_f (l : List (List Int)) : Nat → Dat := fun j => intsD (vAt l j)
def vecsD (l : List (List Int)) : Dat := .row 1 l.length (vecsD_f l)
structure Wd where
 m : Md
 k : List Kn
 c : List (List Int)
def KAt (w : World) (b off : Nat) (k : Kn) : Prop := ∃ vi vh vs u6 u7 u8 u12 u13, (w.cell? ⟨b, off, none⟩ = some (.int .i64 k.m.n) ∧ w.cell? ⟨b, off + 1, none⟩ = some (.int .i64 k.m.s) ∧ w.cell? ⟨b, off + 2, none⟩ = some (vi) ∧ w.cell? ⟨b, off + 3, none⟩ = some (vh) ∧ w.cell? ⟨b, off + 4, none⟩ = some (vs) ∧ w.cell? ⟨b, off + 5, none⟩ = some (.int .i64 k.m.z) ∧ w.cell? ⟨b, off + 6, none⟩ = some (u6) ∧ w.cell? ⟨b, off + 7, none⟩ = some (u7) ∧ w.cell? ⟨b, off + 8, none⟩ = some (u8) ∧ w.cell? ⟨b, off + 9, none⟩ = some (.int .i64 k.t) ∧ w.cell? ⟨b, off + 10, none⟩ = some (.int .i64 k.q) ∧ w.cell? ⟨b, off + 11, none⟩ = some (.bool k.f) ∧ w.cell? ⟨b, off + 12, none⟩ = some (u12) ∧ w.cell? ⟨b, off + 13, none⟩ = some (u13)) ∧ IsKern w (.agg #[.int .i64 k.m.n, .int .i64 k.m.s, vi, vh, vs, .int .i64 k.m.z, u6, u7, u8, .int .i64 k.t, .int .i64 k.q, .bool k.f, u12, u13]) k
theorem KAt.under {w w' : World} {b off : Nat} {k : Kn} (h : KAt w b off k) (hlt : b < w.heap.size) (hb : Below w.heap.size w w') : KAt w' b off k := by
 obtain ⟨vi, vh, vs, u6, u7, u8, u12, u13, ⟨f0, f1, f2, f3, f4, f5, f6, f7, f8, f9, f10, f11, f12, f13⟩, hk⟩ := h
 exact ⟨vi, vh, vs, u6, u7, u8, u12, u13, ⟨(hb.cell (p := ⟨b, _, none⟩) hlt).trans f0, (hb.cell (p := ⟨b, _, none⟩) hlt).trans f1, (hb.cell (p := ⟨b, _, none⟩) hlt).trans f2, (hb.cell (p := ⟨b, _, none⟩) hlt).trans f3, (hb.cell (p := ⟨b, _, none⟩) hlt).trans f4, (hb.cell (p := ⟨b, _, none⟩) hlt).trans f5, (hb.cell (p := ⟨b, _, none⟩) hlt).trans f6, (hb.cell (p := ⟨b, _, none⟩) hlt).trans f7, (hb.cell (p := ⟨b, _, none⟩) hlt).trans f8, (hb.cell (p := ⟨b, _, none⟩) hlt).trans f9, (hb.cell (p := ⟨b, _, none⟩) hlt).trans f10, (hb.cell (p := ⟨b, _, none⟩) hlt).trans f11, (hb.cell (p := ⟨b, _, none⟩) hlt).trans f12, (hb.cell (p := ⟨b, _, none⟩) hlt).trans f13⟩, hk.under hb⟩
def IsKs (w : World) (x : Value) (l : List Kn) : Prop := ∃ a cap, x = .slice a l.length cap ∧ l.length ≤ cap ∧ cap ≤ maxLen ∧ (l.length = 0 ∨ ∃ b off, a = some ⟨b, off, none⟩ ∧ b < w.heap.size ∧ ∀ i, i < l.length → KAt w b (off + i * 14) (knAt l i))
theorem IsKs.under {w w' : World} {x : Value} {l : List Kn} (h : IsKs w x l) (hb : Below w.heap.size w w') : IsKs w' x l := by
 obtain ⟨a, cap, rfl, h1, h2, h⟩ := h
 refine ⟨a, cap, rfl, h1, h2, h.imp id ?_⟩
 rintro ⟨b, off, rfl, hlt, hk⟩
 exact ⟨b, off, rfl, Nat.lt_of_lt_of_le hlt hb.size, fun i hi => (hk i hi).under hlt hb⟩
def IsW (w : World) (x : Value) (v : Wd) : Prop := ∃ vi vh vs uk uc, x = .agg #[.int .i64 v.m.n, .int .i64 v.m.s, vi, vh, vs, .int .i64 v.m.z, uk, uc] ∧ IsM w (.agg #[.int .i64 v.m.n, .int .i64 v.m.s, vi, vh, vs, .int .i64 v.m.z]) v.m ∧ IsKs w uk v.k ∧ IsD w uc (vecsD v.c)
def SmallKs (l : List Kn) : Prop := l.length ≤ 1048576 ∧ ∀ i, i < l.length → SmallK (knAt l i)
def SmallWd (v : Wd) : Prop := SmallM v.m ∧ SmallKs v.k ∧ (vecsD v.c).wt ≤ 1048576
theorem vecs_wt (l : List (List Int)) : (vecsD l).wt = l.length + sumL (fun i => (intsD (vAt l i)).wt) l.length := by
 show l.length + sumL (fun j => (vecsD_f l j).wt) (l.length * 1) = _
 rw [Nat.mul_one]
 rfl
theorem vec_le {l : List (List Int)} {i : Nat} (h : i < l.length) : (vAt l i).length ≤ (vecsD l).wt := by
 rw [vecs_wt]
 have := sumL_mem (fun i => (intsD (vAt l i)).wt) h
 have h2 : (intsD (vAt l i)).wt = (vAt l i).length := ints_wt _
 omega
end Go.Proofs.YthfhibnnkpbeiaaGreat

/- Kernels as data: a kernel's cells, rows of ops, rows of kernels. -/
namespace Go.Proofs.YthfhibnnkpbeiaaGreat
open Go.RowKit
theorem hidKDa {p : Prop} (h : p) : Hid p := h
theorem ops_plain : ∀ (l : List O), ∀ u ∈ cellsO l, ∃ i, u = .int .i64 i
 | [], u, hu => by cases hu
 | e :: l, u, hu => by
  rcases List.mem_append.1 hu with h | h
  ·simp [O.cs] at h
   rcases h with rfl | rfl | rfl | rfl <;> exact ⟨_, rfl⟩
  ·exact ops_plain l u h
def opsD (l : List O) : Dat := flat 4 l.length (cellsO l)
theorem ops_wt (l : List O) : (opsD l).wt = l.length := flat_wt _ _ _
theorem ops_cnt (l : List O) : (opsD l).cnt = l.length * 4 := flat_cnt _ _ _
theorem ops_thin (l : List O) : (opsD l).thin := flat_thin (by omega)
theorem mark_ops {F : Nat → Prop} {x : Value} {l : List O} {w : World} (z : Int) (hn : l.length ≤ 1048577) (hz0 : 0 ≤ z) (hz1 : z ≤ 1073741824) (h : OwnD w F x (opsD l)) :
  Calls Tryz.prog 88 #[x, .int .i64 z] w fun e w' => e = .returned (.int .i64 (z + ((opsD l).cnt : Int))) ∧ OwnD w' F x ((opsD l).mark z) ∧ Turns F w w' := by
 refine (markOF z hn hz0 hz1 (OwnD.rowF (c := 4) h (cellsO_length l))).mono ?_
 rintro e w' ⟨rfl, hr, ht⟩
 refine ⟨ret_int ?_, flat_marked hr.own (ops_plain l), ht⟩
 rw [ops_cnt]
 omega
theorem held_ops {F : Nat → Prop} {x : Value} {l : List O} {w : World} (z : Int) (hn : l.length ≤ 1048577) (hz0 : 0 ≤ z) (hz1 : z ≤ 1073741824) (h : OwnD w F x ((opsD l).mark z)) :
  Calls Tryz.prog 111 #[x, .int .i64 z] w fun e w' => e = .returned (.int .i64 (z + ((opsD l).cnt : Int))) ∧ Below w.heap.size w w' := by
 refine (heldOF (F := F) z hn hz0 hz1 (OwnD.rowF (c := 4) (flat_unmarked h (ops_plain l)) (mkCells_length _ _))).mono ?_
 rintro e w' ⟨rfl, rfl⟩
 refine ⟨ret_int ?_, Below.refl _ _⟩
 rw [ops_cnt]
 omega
def hsD_f (l : List (List O)) : Nat → Dat := fun j => opsD (hAt l j)
def hsD (l : List (List O)) : Dat := .row 1 l.length (hsD_f l)
theorem hsD_at (l : List (List O)) (i : Nat) {r : Nat} (hr : r < 1) : hsD_f l (i * 1 + r) = opsD (hAt l i) := by
 obtain rfl : r = 0 := by omega
 rw [Nat.mul_one, Nat.add_zero]
 rfl
theorem hsD_wt (l : List (List O)) : (hsD l).wt = l.length + sumL (fun i => (opsD (hAt l i)).wt) l.length := by
 show l.length + sumL (fun j => (hsD_f l j).wt) (l.length * 1) = _
 rw [Nat.mul_one]
 rfl
theorem hsD_le {l : List (List O)} {i : Nat} (h : i < l.length) : (hAt l i).length ≤ (hsD l).wt := by
 rw [hsD_wt]
 have := sumL_mem (fun i => (opsD (hAt l i)).wt) h
 have h2 : (opsD (hAt l i)).wt = (hAt l i).length := ops_wt _
 omega
theorem hs_thin (l : List (List O)) : (hsD l).thin := ⟨by omega, fun j => ops_thin _⟩
theorem HsF.own {F : Nat → Prop} {w : World} {x : Value} {l : List (List O)} (h : HsF F w x l) : OwnD w F x (hsD l) := by
 obtain ⟨U, F0, G, ⟨hl, a, cap, rfl, h1, h2, h⟩, hF, h3, h4⟩ := h
 rcases h with h | ⟨g, rfl, hg0, hg, hc⟩
 ·rw [h]
  have : l = [] := List.eq_nil_of_length_eq_zero h
  subst this
  exact .nil F a cap 1 _ h2
 ·refine .row F g l.length cap 1 _ U G h1 h2 hg (hF g hg0) (fun j hj => ⟨?_, (hc j hj).2⟩) (fun j hj => (h3 j (by omega)).1.own) (fun j hj k hk => ⟨((h3 j (by omega)).2 k hk).1, fun e => ((h3 j (by omega)).2 k hk).2 (e ▸ hg0)⟩) (fun i j hi hj => h4 i j (by omega) (by omega))
  rw [(hc j hj).1]
  simp [show j < l.length by omega]
theorem IsD.isOs {w : World} {x : Value} {l : List O} (h : IsD w x (opsD l)) : IsO w x l := by
 obtain ⟨a, cap, rfl, h1, h2, h⟩ := IsD.parts (c := 4) (n := l.length) h
 refine ⟨a, cap, rfl, h1, h2, h.imp List.eq_nil_of_length_eq_zero ?_⟩
 rintro ⟨b, off, rfl, hb, hc⟩
 refine ⟨b, off, rfl, hb, fun i hi => ?_⟩
 have hget : ∀ r, r < 4 → w.cell? ⟨b, off + i * 4 + r, none⟩ = (oAt l i).cs[r]? := fun r hr => by
  obtain ⟨u, hu, hd⟩ := hc (i * 4 + r) (by omega)
  rw [Nat.add_assoc, hu, hd.val_eq]
  have hg := cellsO_get l i r hi hr
  have : r < (oAt l i).cs.length := by simpa [O.cs] using hr
  rw [List.getElem?_eq_getElem this] at hg ⊢
  rw [getD_of hg]
 exact ⟨hget 0 (by omega), hget 1 (by omega), hget 2 (by omega), hget 3 (by omega)⟩
theorem IsD.isHs {w : World} {x : Value} {l : List (List O)} (h : IsD w x (hsD l)) : IsH w x l := by
 obtain ⟨a, cap, rfl, h1, h2, h⟩ := IsD.parts (c := 1) (n := l.length) h
 refine ⟨a, cap, rfl, h1, h2, h.imp List.eq_nil_of_length_eq_zero ?_⟩
 rintro ⟨b, off, rfl, hb, hc⟩
 refine ⟨b, off, rfl, hb, fun i hi => ?_⟩
 obtain ⟨u, hu, hd⟩ := hc i (by omega)
 exact ⟨u, hu, IsD.isOs hd⟩
def Kn.cell (p : Kn) : Nat → Dat
 | 0 => Dat.val (.int .i64 p.m.n)
 | 1 => Dat.val (.int .i64 p.m.s)
 | 2 => intsD p.m.i
 | 3 => hsD p.m.h
 | 4 => evsD p.m.e
 | 5 => Dat.val (.int .i64 p.m.z)
 | 6 => intsD p.d
 | 7 => partsD p.p
 | 8 => mailsD p.b
 | 9 => Dat.val (.int .i64 p.t)
 | 10 => Dat.val (.int .i64 p.q)
 | 11 => Dat.val (.bool p.f)
 | 12 => evsD p.s
 | 13 => emsD p.x
 | _ => .val (.int .i64 0)
def Kn.wd (p : Kn) : Nat := (intsD p.m.i).wt + (hsD p.m.h).wt + (evsD p.m.e).wt + (intsD p.d).wt + (partsD p.p).wt + (mailsD p.b).wt + (evsD p.s).wt + (emsD p.x).wt
def knsD_f (l : List Kn) : Nat → Dat := fun j => (knAt l (j / 14)).cell (j % 14)
def knsD (l : List Kn) : Dat := .row 14 l.length (knsD_f l)
theorem knsD_at (l : List Kn) (i : Nat) {r : Nat} (hr : r < 14) : knsD_f l (i * 14 + r) = (knAt l i).cell r := by
 show (knAt l ((i * 14 + r) / 14)).cell ((i * 14 + r) % 14) = _
 rw [show (i * 14 + r) / 14 = i from by omega, show (i * 14 + r) % 14 = r from by omega]
set_option maxHeartbeats 2000000 in
theorem knsD_wt (l : List Kn) : (knsD l).wt = l.length + sumL (fun i => (knAt l i).wd) l.length := by
 show l.length + sumL (fun j => ((knAt l (j / 14)).cell (j % 14)).wt) (l.length * 14) = _
 rw [sumL_grid (h := fun i r => ((knAt l i).cell r).wt)]
 congr 1
 refine sumL_congr (fun i _ => ?_)
 simp only [sumL, Kn.cell, Kn.wd, Dat.wt, Nat.zero_add, Nat.add_zero]
set_option maxHeartbeats 2000000 in
theorem Kn.thin (p : Kn) (r : Nat) : (p.cell r).thin := by
 unfold Kn.cell
 split
 ·trivial
 ·trivial
 ·exact ints_thin _
 ·exact hs_thin _
 ·exact evs_thin _
 ·trivial
 ·exact ints_thin _
 ·exact parts_thin _
 ·exact mails_thin _
 ·trivial
 ·trivial
 ·trivial
 ·exact evs_thin _
 ·exact ems_thin _
 ·trivial
theorem kernels_thin (l : List Kn) : (knsD l).thin := ⟨by omega, fun j => Kn.thin (knAt l (j / 14)) (j % 14)⟩
theorem Kn.wd_le {l : List Kn} {i : Nat} (h : i < l.length) : (knAt l i).wd ≤ (knsD l).wt := by
 rw [knsD_wt]
 have := sumL_mem (fun i => (knAt l i).wd) h
 omega
theorem knsD_in {w : World} {b off n : Nat} {l : List Kn} (h : ∀ j, j < n * 14 → ∃ u, w.cell? ⟨b, off + j, none⟩ = some u ∧ IsD w u ((knAt l (j / 14)).cell (j % 14))) {i : Nat} (hi : i < n) :
  ∃ u2 u3 u4 u6 u7 u8 u12 u13, w.cell? ⟨b, off + i * 14, none⟩ = some (.int .i64 (knAt l i).m.n) ∧ w.cell? ⟨b, off + i * 14 + 1, none⟩ = some (.int .i64 (knAt l i).m.s) ∧ w.cell? ⟨b, off + i * 14 + 2, none⟩ = some (u2) ∧ w.cell? ⟨b, off + i * 14 + 3, none⟩ = some (u3) ∧ w.cell? ⟨b, off + i * 14 + 4, none⟩ = some (u4) ∧ w.cell? ⟨b, off + i * 14 + 5, none⟩ = some (.int .i64 (knAt l i).m.z) ∧ w.cell? ⟨b, off + i * 14 + 6, none⟩ = some (u6) ∧ w.cell? ⟨b, off + i * 14 + 7, none⟩ = some (u7) ∧ w.cell? ⟨b, off + i * 14 + 8, none⟩ = some (u8) ∧ w.cell? ⟨b, off + i * 14 + 9, none⟩ = some (.int .i64 (knAt l i).t) ∧ w.cell? ⟨b, off + i * 14 + 10, none⟩ = some (.int .i64 (knAt l i).q) ∧ w.cell? ⟨b, off + i * 14 + 11, none⟩ = some (.bool (knAt l i).f) ∧ w.cell? ⟨b, off + i * 14 + 12, none⟩ = some (u12) ∧ w.cell? ⟨b, off + i * 14 + 13, none⟩ = some (u13) ∧ IsD w u2 (intsD (knAt l i).m.i) ∧ IsD w u3 (hsD (knAt l i).m.h) ∧ IsD w u4 (evsD (knAt l i).m.e) ∧ IsD w u6 (intsD (knAt l i).d) ∧ IsD w u7 (partsD (knAt l i).p) ∧ IsD w u8 (mailsD (knAt l i).b) ∧ IsD w u12 (evsD (knAt l i).s) ∧ IsD w u13 (emsD (knAt l i).x) := by
 have hh : ∀ r, r < 14 → ∃ u, w.cell? ⟨b, off + i * 14 + r, none⟩ = some u ∧ IsD w u ((knAt l i).cell r) := fun r hr => by
  have := h (i * 14 + r) (by omega)
  rw [show (i * 14 + r) / 14 = i from by omega, show (i * 14 + r) % 14 = r from by omega, ← Nat.add_assoc] at this
  exact this
 obtain ⟨u0, c0, d0⟩ := hh 0 (by omega)
 obtain ⟨u1, c1, d1⟩ := hh 1 (by omega)
 obtain ⟨u2, c2, d2⟩ := hh 2 (by omega)
 obtain ⟨u3, c3, d3⟩ := hh 3 (by omega)
 obtain ⟨u4, c4, d4⟩ := hh 4 (by omega)
 obtain ⟨u5, c5, d5⟩ := hh 5 (by omega)
 obtain ⟨u6, c6, d6⟩ := hh 6 (by omega)
 obtain ⟨u7, c7, d7⟩ := hh 7 (by omega)
 obtain ⟨u8, c8, d8⟩ := hh 8 (by omega)
 obtain ⟨u9, c9, d9⟩ := hh 9 (by omega)
 obtain ⟨u10, c10, d10⟩ := hh 10 (by omega)
 obtain ⟨u11, c11, d11⟩ := hh 11 (by omega)
 obtain ⟨u12, c12, d12⟩ := hh 12 (by omega)
 obtain ⟨u13, c13, d13⟩ := hh 13 (by omega)
 obtain rfl := d0.val_eq
 obtain rfl := d1.val_eq
 obtain rfl := d5.val_eq
 obtain rfl := d9.val_eq
 obtain rfl := d10.val_eq
 obtain rfl := d11.val_eq
 exact ⟨u2, u3, u4, u6, u7, u8, u12, u13, c0, c1, c2, c3, c4, c5, c6, c7, c8, c9, c10, c11, c12, c13, d2, d3, d4, d6, d7, d8, d12, d13⟩
theorem IsD.isKs {w : World} {x : Value} {l : List Kn} (h : IsD w x (knsD l)) : IsKs w x l := by
 obtain ⟨a, cap, rfl, h1, h2, h⟩ := IsD.parts (c := 14) (n := l.length) h
 refine ⟨a, cap, rfl, h1, h2, h.imp id ?_⟩
 rintro ⟨b, off, rfl, hb, hc⟩
 refine ⟨b, off, rfl, hb, fun i hi => ?_⟩
 obtain ⟨u2, u3, u4, u6, u7, u8, u12, u13, c0, c1, c2, c3, c4, c5, c6, c7, c8, c9, c10, c11, c12, c13, d2, d3, d4, d6, d7, d8, d12, d13⟩ := knsD_in hc hi
 exact ⟨u2, u3, u4, u6, u7, u8, u12, u13, ⟨c0, c1, c2, c3, c4, c5, c6, c7, c8, c9, c10, c11, c12, c13⟩, u2, u3, u4, u6, u7, u8, u12, u13, rfl, ⟨_, _, _, rfl, d2.isI, IsD.isHs d3, d4.isEvs⟩, d6, d7, d8, d12, d13⟩
set_option maxHeartbeats 4000000 in
theorem mark_hs {F : Nat → Prop} {x : Value} {l : List (List O)} {w : World} (z : Int) (hn : (hsD l).wt ≤ 1048577) (hz0 : 0 ≤ z) (hz1 : z + ((hsD l).cnt : Int) ≤ 1073741824) (h : OwnD w F x (hsD l)) :
  Calls Tryz.prog 41 #[x, .int .i64 z] w fun e w' => e = .returned (.int .i64 (z + ((hsD l).cnt : Int))) ∧ OwnD w' F x ((hsD l).mark z) ∧ Turns F w w' := by
 obtain ⟨a, cap, rfl, h1, h2, ha⟩ := OwnD.parts (c := 1) (n := l.length) h
 have HR0 := hidKDa (OwnD.mk0 z h)
 have HS := hidKDa hn
 have HZ := hidKDa hz1
 have hl2 : l.length ≤ 1048577 := by rw [hsD_wt] at hn; omega
 clear h hn hz1 h1 h2
 go_enter Tryz.func41, Tryz.ntmps41
 go_wp2
 go_loopw [5, 1] (fun i y wr => ∃ k : Nat, k ≤ l.length ∧ i = .int .i64 k ∧ y = .int .i64 (z + (sumC (hsD_f l) (k * 1) : Int)) ∧ OwnD wr F (.slice a l.length cap) (.row 1 l.length (mkD (hsD_f l) z (k * 1))) ∧ Turns F w wr) (fun i _ _ => l.length - (intOf i).toNat)
 case atStart => exact ⟨0, Nat.zero_le _, rfl, by simp [sumC, sumL], HR0.out, Turns.refl _ _⟩
 case round =>
  obtain ⟨k, hk, rfl, rfl, hR, hT⟩ := hrel
  have HR := hidKDa hR
  have HT : Hid (Turns F w wr) := hT
  clear hR hT
  by_cases hlt : k < l.length
  ·obtain ⟨g, rfl, _, hFg⟩ := ha.resolve_left (by omega)
   have HF : Hid (F g) := hFg
   have hwt : (hAt l k).length ≤ 1048577 := Nat.le_trans (hsD_le hlt) HS.out
   obtain ⟨m, hm⟩ : ∃ m, m = k * 1 := ⟨_, rfl⟩
   have E0 : Hid ((hsD_f l) (k * 1) = opsD (hAt l k)) := hsD_at l k (r := 0) (by omega)
   have C0 : Hid (sumC (hsD_f l) (k * 1) ≤ (hsD l).cnt) := sumC_le (by omega)
   have S1 : Hid (sumC (hsD_f l) (k * 1 + 1) = sumC (hsD_f l) (k * 1) + (opsD (hAt l k)).cnt) := by
    have e := sumC_succ (hsD_f l) (k * 1)
    rw [E0.out] at e
    exact e
   have C1 : Hid (sumC (hsD_f l) (k * 1 + 1) ≤ (hsD l).cnt) := sumC_le (by omega)
   obtain ⟨y, hy⟩ : ∃ y : Int, y = z + (sumC (hsD_f l) (k * 1) : Int) := ⟨_, rfl⟩
   have HY0 := hidKDa hy
   have y0 : 0 ≤ y := by omega
   rw [← hy]
   clear hy hm
   obtain ⟨u0, K0, g0, o0, f0, b0⟩ := HR.out.mk_row (m := k * 1) (by omega)
   rw [Nat.mul_one] at g0
   rw [E0.out] at o0 b0
   have O0 := hidKDa o0
   have B0 := hidKDa b0
   have F0 : Hid (∀ b, K0 b → F b) := f0
   clear o0 b0 f0
   have hq0 : y = z + (sumC (hsD_f l) (k * 1) : Int) := by (have e := HY0.out; omega)
   have hb0 : y ≤ 1073741824 := by have := HZ.out; have := C0.out; omega
   have Q0 := hidKDa hq0
   clear hq0
   go_wp2_with fail
   clear g0
   refine (mark_ops (F := K0) (l := (hAt l k)) (y) (by omega) (by omega) (by omega) O0.out).mono ?_
   rintro e w1 ⟨rfl, hr, ht⟩
   rw [Q0.out] at hr
   have HR1 := hidKDa (B0.out _ hr ht)
   have HT1 : Hid (Turns F w w1) := HT.out.trans (ht.mono F0.out)
   clear hr ht
   obtain ⟨y0, hy⟩ : ∃ y0 : Int, y0 = y + ((opsD (hAt l k)).cnt : Int) := ⟨_, rfl⟩
   have HY1 : Hid (y0 = z + (sumC (hsD_f l) (k * 1 + 1) : Int)) := by
    have h8 := S1.out
    have h9 := Q0.out
    show y0 = _
    omega
   have y00 : 0 ≤ y0 := by omega
   have y01 : y0 ≤ 1073741824 := by have h7 := HZ.out; have h8 := C1.out; have h9 := HY1.out; omega
   rw [← hy]
   clear hy
   go_wp2
   go_roundw
   case rel =>
    refine ⟨k + 1, by omega, by go_num, ?_, ?_, HT1.out⟩
    ·rw [show y0 = z + (sumC (hsD_f l) ((k + 1) * 1) : Int) from by rw [show (k + 1) * 1 = k * 1 + 1 from by omega]; (have e := HY1.out; omega)]
    ·rw [show (k + 1) * 1 = k * 1 + 1 from by omega]
     exact HR1.out
   case measure => simp [intOf]; omega
  ·go_wp2
   go_ret
   obtain rfl : k = l.length := by omega
   exact ⟨rfl, HR.out.mkAll, HT.out⟩
set_option maxHeartbeats 4000000 in
theorem held_hs {F : Nat → Prop} {x : Value} {l : List (List O)} {w : World} (z : Int) (hn : (hsD l).wt ≤ 1048577) (hz0 : 0 ≤ z) (hz1 : z + ((hsD l).cnt : Int) ≤ 1073741824) (h : OwnD w F x ((hsD l).mark z)) :
  Calls Tryz.prog 90 #[x, .int .i64 z] w fun e w' => e = .returned (.int .i64 (z + ((hsD l).cnt : Int))) ∧ Below w.heap.size w w' := by
 obtain ⟨a, cap, rfl, h2, ha⟩ := OwnD.mslice (c := 1) (n := l.length) h
 have HR0 := hidKDa h
 have HS := hidKDa hn
 have HZ := hidKDa hz1
 have hl2 : l.length ≤ 1048577 := by rw [hsD_wt] at hn; omega
 clear h hn hz1 h2
 go_enter Tryz.func90, Tryz.ntmps90
 go_wp2
 go_loopw [5, 1] (fun i y wr => ∃ k : Nat, k ≤ l.length ∧ i = .int .i64 k ∧ y = .int .i64 (z + (sumC (hsD_f l) (k * 1) : Int)) ∧ Below w.heap.size w wr) (fun i _ _ => l.length - (intOf i).toNat)
 case atStart => exact ⟨0, Nat.zero_le _, rfl, by simp [sumC, sumL], Below.refl _ _⟩
 case round =>
  obtain ⟨k, hk, rfl, rfl, hB⟩ := hrel
  have HB := hidKDa hB
  clear hB
  by_cases hlt : k < l.length
  ·obtain ⟨g, rfl⟩ := ha.resolve_left (by omega)
   have HR := hidKDa (HR0.out.under HB.out)
   have hwt : (hAt l k).length ≤ 1048577 := Nat.le_trans (hsD_le hlt) HS.out
   have E0 : Hid ((hsD_f l) (k * 1) = opsD (hAt l k)) := hsD_at l k (r := 0) (by omega)
   have C0 : Hid (sumC (hsD_f l) (k * 1) ≤ (hsD l).cnt) := sumC_le (by omega)
   have S1 : Hid (sumC (hsD_f l) (k * 1 + 1) = sumC (hsD_f l) (k * 1) + (opsD (hAt l k)).cnt) := by
    have e := sumC_succ (hsD_f l) (k * 1)
    rw [E0.out] at e
    exact e
   have C1 : Hid (sumC (hsD_f l) (k * 1 + 1) ≤ (hsD l).cnt) := sumC_le (by omega)
   obtain ⟨y, hy⟩ : ∃ y : Int, y = z + (sumC (hsD_f l) (k * 1) : Int) := ⟨_, rfl⟩
   have HY0 := hidKDa hy
   have y0 : 0 ≤ y := by omega
   rw [← hy]
   clear hy
   obtain ⟨u0, K0, g0, o0⟩ := OwnD.marked (c := 1) (n := l.length) (f := (hsD_f l)) HR.out (j := k * 1) (by omega)
   rw [Nat.mul_one] at g0
   rw [E0.out] at o0
   have hq0 : y = z + (sumC (hsD_f l) (k * 1) : Int) := by (have e := HY0.out; omega)
   have hb0 : y ≤ 1073741824 := by have := HZ.out; have := C0.out; omega
   rw [← hq0] at o0
   have O0 := hidKDa o0
   have Q0 := hidKDa hq0
   clear hq0 o0
   go_wp2_with fail
   clear g0
   refine (held_ops (F := K0) (l := (hAt l k)) (y) (by omega) (by omega) (by omega) O0.out).mono ?_
   rintro e w1 ⟨rfl, hb⟩
   have HR1 := hidKDa (HR.out.under hb)
   have HB1 := hidKDa (HB.out.trans (hb.mono HB.out.size))
   clear hb
   obtain ⟨y0, hy⟩ : ∃ y0 : Int, y0 = y + ((opsD (hAt l k)).cnt : Int) := ⟨_, rfl⟩
   have HY1 : Hid (y0 = z + (sumC (hsD_f l) (k * 1 + 1) : Int)) := by
    have h8 := S1.out
    have h9 := Q0.out
    show y0 = _
    omega
   have y00 : 0 ≤ y0 := by omega
   have y01 : y0 ≤ 1073741824 := by have h7 := HZ.out; have h8 := C1.out; have h9 := HY1.out; omega
   have y02 : ¬ (y0 < 0) := by omega
   rw [← hy]
   clear hy
   go_wp2
   go_roundw
   case rel =>
    refine ⟨k + 1, by omega, by go_num, ?_, HB1.out⟩
    rw [show y0 = z + (sumC (hsD_f l) ((k + 1) * 1) : Int) from by rw [show (k + 1) * 1 = k * 1 + 1 from by omega]; (have e := HY1.out; omega)]
   case measure => simp [intOf]; omega
  ·go_wp2
   go_ret
   obtain rfl : k = l.length := by omega
   exact ⟨rfl, HB.out⟩
end Go.Proofs.YthfhibnnkpbeiaaGreat

