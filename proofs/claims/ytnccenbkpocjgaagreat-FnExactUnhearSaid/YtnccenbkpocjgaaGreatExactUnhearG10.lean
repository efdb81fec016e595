/- HHe, HHp, HSa, HSh, UAd -/
import Derived.Test.YtnccenbkpocjgaaGreatExactUnhearG06
import Derived.Test.YtnccenbkpocjgaaGreatExactHearG11
import Derived.Test.YtnccenbkpocjgaaGreatExactUnhearLPGf
import Derived.Test.YtnccenbkpocjgaaGreatExactUnhearG07
import Derived.Test.YtnccenbkpocjgaaGreatExactHearLPSo
import Derived.Test.YtnccenbkpocjgaaGreatExactHearLPBf
import Derived.Test.YtnccenbkpocjgaaGreatExactUnhearG02
import Derived.Test.YtnccenbkpocjgaaGreatExactHearG28
/- A doer hears of an event. -/
namespace Go.Proofs.YtnccenbkpocjgaaGreat
open Go.RowKit
theorem cellsL_cut : ∀ (l : List Ev) (i : Nat), (cellsL l).take (i * 7) = cellsL (l.take i) ∧ (cellsL l).drop (i * 7) = cellsL (l.drop i)
 | [], i => by simp [cellsL]
 | a :: l, 0 => by simp [cellsL]
 | a :: l, i + 1 => by
  obtain ⟨h1, h2⟩ := cellsL_cut l i
  have e : cellsL (a :: l) = a.cs ++ cellsL l := rfl
  have hl : a.cs.length = 7 := rfl
  rw [e, show (i + 1) * 7 = a.cs.length + i * 7 by rw [hl]; omega, List.take_length_add_append, List.drop_length_add_append, h1, h2]
  exact ⟨rfl, rfl⟩
theorem DoR.setT {B D : Nat} {w X : World} {vr vp vt vt' va vu : Value} {A1 A4 : Nat → Prop} {p : Pa} {u l : List Ev} (h : DoR B D w vr vp vt va vu A1 A4 p u) (hb3 : Bk X D 157 #[vr, .int .i64 p.st.q, .int .i64 p.st.d, .int .i64 p.n, vp, vt', va, vu]) (ho : X.ownsRow B 55 7 vt' l.length (cellsL l)) (hn : NewRow w vt vt') (tt : Turns (fun k => k = D ∨ vt.ownBlock = some k) w X) :
  DoR B D X vr vp vt' va vu A1 A4 ⟨p.n, p.st, p.p, l, p.a⟩ u := by
 have fresh : ∀ k, k < w.heap.size → vt.ownBlock ≠ some k → vt'.ownBlock ≠ some k := fun k hk hne e => by
  rcases hn with h1 | h1
  ·exact hne (h1 ▸ e)
  ·have := h1 k e; omega
 have hua : ∀ k, va.ownBlock = some k → k < w.heap.size := fun k hk => owns_lt h.cp.antis hk
 have huu : ∀ k, vu.ownBlock = some k → k < w.heap.size := fun k hk => owns_lt h.und hk
 have nat : ∀ k, va.ownBlock = some k → vt.ownBlock ≠ some k := fun k hk e => h.cp.d5 k e hk
 refine ⟨⟨?_, ?_, ho, ?_, ?_, ?_, ?_⟩, ?_, hb3, ?_, h.dD, h.lo⟩
 ·exact h.cp.regs.turns tt (fun k hk hs => hs.elim (fun e => h.dD.1 (e ▸ hk)) (h.cp.d1 k hk).2.2.1)
 ·exact h.cp.past.turns tt (fun k hk hs => hs.elim (fun e => h.dD.2 (e ▸ hk)) (h.cp.d4 k hk).2.1)
 ·exact owns_turns h.cp.antis tt (fun k hk hs => hs.elim (fun e => h.neT.2.1 (e ▸ hk)) (nat k hk))
 ·exact fun k hk => ⟨⟨(h.cp.d1 k hk).1.1, Nat.lt_of_lt_of_le (h.cp.d1 k hk).1.2 tt.size⟩, (h.cp.d1 k hk).2.1, fresh k (h.cp.d1 k hk).1.2 (h.cp.d1 k hk).2.2.1, (h.cp.d1 k hk).2.2.2⟩
 ·exact fun k hk => ⟨⟨(h.cp.d4 k hk).1.1, Nat.lt_of_lt_of_le (h.cp.d4 k hk).1.2 tt.size⟩, fresh k (h.cp.d4 k hk).1.2 (h.cp.d4 k hk).2.1, (h.cp.d4 k hk).2.2⟩
 ·exact fun k hk e => fresh k (hua k e) (nat k e) hk
 ·exact owns_turns h.und tt (fun k hk hs => hs.elim (fun e => h.neT.2.2 (e ▸ hk)) (h.du k hk).2.2.1)
 ·exact fun k hk => ⟨(h.du k hk).1, (h.du k hk).2.1, fresh k (huu k hk) (h.du k hk).2.2.1, (h.du k hk).2.2.2⟩
end Go.Proofs.YtnccenbkpocjgaaGreat
/- Hear, in plain words. -/
namespace Go.Proofs.YtnccenbkpocjgaaGreat
open Go.RowKit
def AnsH (w w' : World) (r : Ending) (a : Pa) (l : List Ev) (b : Bool) : Prop := ∃ y1 y2, r = .returned (.tuple #[y1, y2, .bool b]) ∧ Below w.heap.size w w' ∧ A2 (fun k => w.heap.size ≤ k ∧ k < w'.heap.size) w' y1 y2 a (evsD l)
noncomputable def knowsB (p : Pa) (g : Int) : Bool := @decide (∃ i, i < p.all.length ∧ (evAt p.all i).g = g) (Classical.propDecidable _)
theorem knowsB_iff {p : Pa} {g : Int} : knowsB p g = true ↔ ∃ i, i < p.all.length ∧ (evAt p.all i).g = g := by unfold knowsB; simp
theorem sumL_b9 {f : Nat → Nat} {b : Nat} : ∀ {n : Nat}, (∀ j, j < n → f j ≤ b) → sumL f n ≤ n * b
 | 0, _ => by simp [sumL]
 | n + 1, h => by
  have h1 := sumL_b9 (f := f) (b := b) (n := n) (fun j hj => h j (by omega))
  have h2 := h n (by omega)
  simp only [sumL]
  rw [Nat.add_mul]
  omega
theorem st_two {s : St} (h : s.ok = true) : s.r.length = 2 := by
 unfold St.ok at h
 exact (of_decide_eq_true h).1
theorem ps_wt9 {p : Pa} (hg : GoodP p) {i : Nat} (hi : i < p.p.length) : (psAt p.p i).wt ≤ 18 := by
 obtain ⟨h1, h2, h3⟩ := hg.2.2.2.1 i hi
 unfold Ps.wt
 rw [ints_wt, evs_wt, ems_wt, st_two h1]
 unfold sentsB at h2
 unfold emsB at h3
 have h4 : (psAt p.p i).s.length ≤ 8 := of_decide_eq_true (Bool.and_eq_true_iff.1 h2).1
 have h5 : (psAt p.p i).x.length ≤ 8 := of_decide_eq_true (Bool.and_eq_true_iff.1 h3).1
 omega
theorem psTake9 {l : List Ps} {j k : Nat} (h : k < j) : psAt (l.take j) k = psAt l k := by
 unfold psAt
 rw [List.getD_eq_getElem?_getD, List.getD_eq_getElem?_getD, List.getElem?_take_of_lt h]
theorem take_wt9 {p : Pa} (hg : GoodP p) (j : Nat) : (pastsD (p.p.take j)).wt ≤ 3800 := by
 rw [pastsD_wt]
 have hl : (p.p.take j).length ≤ 200 := by rw [List.length_take]; have := hg.1.1; omega
 have h1 : sumL (fun i => (psAt (p.p.take j) i).wt) (p.p.take j).length ≤ (p.p.take j).length * 18 := sumL_b9 (fun i hi => by
  have hlt : i < p.p.length := by rw [List.length_take] at hi; omega
  have hij : i < j := by rw [List.length_take] at hi; omega
  show (psAt (p.p.take j) i).wt ≤ 18
  rw [psTake9 hij]
  exact ps_wt9 hg hlt)
 omega
theorem good_small {p : Pa} (hg : GoodP p) : p.wt ≤ 10000 := by
 have h1 := take_wt9 hg p.p.length
 rw [List.take_length] at h1
 have h2 := st_two hg.2.2.1
 have h3 := hg.1
 unfold Pa.wt
 rw [ints_wt, evs_wt, ints_wt]
 omega
end Go.Proofs.YtnccenbkpocjgaaGreat
/- The specification's l4antiAt, l1find, l4knows. -/
namespace Go.Proofs.YtnccenbkpocjgaaGreat
open Go.RowKit
theorem hidHSa {p : Prop} (h : p) : Hid p := h
def sFindR (l : List Ev) (z : Int) (r : Ending) : Prop := (∃ i : Nat, r = .returned (.int .i64 (i : Int)) ∧ i < l.length ∧ (evAt l i).g = z) ∨ (r = .returned (.int .i64 (-1)) ∧ ∀ i, i < l.length → (evAt l i).g ≠ z)
set_option maxRecDepth 100000 in
set_option maxHeartbeats 4000000 in
theorem sFind_any (a : Option Addr) (cap : Nat) (l : List Ev) (z : Int) (w : World) (hl : l.length ≤ 1048577) (h : IsEvs w (.slice a l.length cap) l) :
  Calls Tryz.prog 110 #[.slice a l.length cap, .int .i64 z] w fun r w' => sFindR l z r ∧ w' = w := by
 have HI : Hid (l = [] ∨ ∃ b off, a = some ⟨b, off, none⟩ ∧ EvsAt w b off l) := by
  obtain ⟨a', c', e, _, _, h⟩ := h
  cases e
  exact h
 clear h
 go_enter Tryz.func110, Tryz.ntmps110
 go_wp2
 go_loopw [5] (fun i wr => wr = w ∧ ∃ j : Nat, j ≤ l.length ∧ i = .int .i64 j ∧ Hid (∀ i, i < j → (evAt l i).g ≠ z)) (fun i _ => l.length - (intOf i).toNat)
 case atStart => exact ⟨rfl, 0, Nat.zero_le _, rfl, fun j hj => by omega⟩
 case round =>
  obtain ⟨hw, j, hj, rfl, HA⟩ := hrel
  have hw' := hw.symm
  clear hw
  subst hw'
  by_cases hlt : j < l.length
  ·obtain ⟨b, off, rfl, hb, hc⟩ := HI.out.resolve_left (by intro e; rw [e] at hlt; simp at hlt)
   have hji : (j : Int) < (l.length : Int) := by omega
   obtain ⟨k0, k1, k2, k3, k4, k5, k6⟩ := hc j hlt
   clear hc
   by_cases hz : (evAt l j).g = z
   ·have hzb : ((evAt l j).g == z) = true := by simpa using hz
    have HZ : Hid ((evAt l j).g = z) := hz
    clear hz
    go_wp2
    go_ret
    exact ⟨.inl ⟨j, rfl, hlt, HZ.out⟩, rfl⟩
   ·have hzb : ((evAt l j).g == z) = false := by rw [beq_eq_false_iff_ne]; exact hz
    have HZ : Hid (¬ (evAt l j).g = z) := hz
    go_wp2
    go_roundw
    case rel => exact ⟨by simp, j + 1, by omega, by go_num, fun i hi => by
     by_cases e : i = j
     ·subst e; exact HZ.out
     ·exact HA.out i (by omega)⟩
    case measure => simp [intOf]; omega
  ·obtain rfl : l.length = j := by omega
   go_wp2
   go_ret
   exact ⟨.inr ⟨rfl, HA.out⟩, rfl⟩
theorem knows_two {p : Pa} {g : Int} : knowsB p g = true ↔ hasB p.p p.p.length g = true ∨ ∃ i, i < p.t.length ∧ (evAt p.t i).g = g := by
 rw [knowsB_iff]
 constructor
 ·rintro ⟨i, hi, e⟩
  rw [all_length] at hi
  by_cases h : i < p.p.length
  ·refine .inl ?_
   rw [all_done p h] at e
   cases hh : hasB p.p p.p.length g
   ·exact absurd e (hasB_no.1 hh i h)
   ·rfl
  ·refine .inr ⟨i - p.p.length, by omega, ?_⟩
   have := all_todo p (i - p.p.length)
   rw [show p.p.length + (i - p.p.length) = i by omega] at this
   rw [← this]
   exact e
 ·rintro (h | ⟨i, hi, e⟩)
  ·by_cases hx : ∃ i, i < p.p.length ∧ (psAt p.p i).e.g = g
   ·obtain ⟨i, hi, e⟩ := hx
    exact ⟨i, by rw [all_length]; omega, by rw [all_done p hi]; exact e⟩
   ·have : hasB p.p p.p.length g = false := hasB_no.2 (fun j hj e => hx ⟨j, hj, e⟩)
    rw [this] at h
    cases h
  ·exact ⟨p.p.length + i, by rw [all_length]; omega, by rw [all_todo]; exact e⟩
theorem pasts_tags {w : World} {a : Option Addr} {cap : Nat} {l : List Ps} (h : IsD w (.slice a l.length cap) (pastsD l)) : l.length = 0 ∨ ∃ b off, a = some ⟨b, off, none⟩ ∧ ∀ j, j < l.length → w.cell? ⟨b, off + j * 12 + 6, none⟩ = some (.int .i64 (psAt l j).e.g) := by
 obtain ⟨a', cap', e, _, _, h⟩ := IsD.parts (c := 12) (n := l.length) h
 cases e
 refine h.imp id ?_
 rintro ⟨b, off, rfl, _, hc⟩
 refine ⟨b, off, rfl, fun j hj => ?_⟩
 obtain ⟨u7, u10, u11, k0, k1, k2, k3, k4, k5, k6, _⟩ := pastsD_in hc hj
 exact k6
set_option maxRecDepth 100000 in
set_option maxHeartbeats 4000000 in
theorem sKnows (x : Value) (p : Pa) (g : Int) (w : World) (hl1 : p.p.length ≤ 1048576) (hl2 : p.t.length ≤ 1048576) (h : IsPart w x p) :
  Calls Tryz.prog 56 #[x, .int .i64 g] w fun r w' => r = .returned (.bool (knowsB p g)) ∧ Below w.heap.size w w' := by
 obtain ⟨u1, u4, u5, u6, rfl, d1, d4, d5, d6⟩ := h
 obtain ⟨a4, c4, rfl, _⟩ := IsD.len d4
 obtain ⟨a5, c5, rfl, _⟩ := IsD.len d5
 obtain ⟨W0, hW0⟩ : ∃ W0, w.alloc (.cells #[.int .i64 p.n, u1, .int .i64 p.st.q, .int .i64 p.st.d, .slice a4 p.p.length c4, .slice a5 p.t.length c5, u6] 33) = W0 := ⟨_, rfl⟩
 have hb0 : Below w.heap.size w W0 := hW0 ▸ (Below.refl _ w).alloc (Nat.le_refl _) _
 have HB0 := hidHSa hb0
 have BX : Hid (Bk W0 w.heap.size 33 #[.int .i64 p.n, u1, .int .i64 p.st.q, .int .i64 p.st.d, .slice a4 p.p.length c4, .slice a5 p.t.length c5, u6]) := hW0 ▸ Bk.new w _ _
 have H4 := hidHSa (d4.under hb0)
 have H5 := hidHSa ((d5.under hb0).isEvs)
 clear d1 d4 d5 d6 hb0
 have x4 := BX.out.cell (i := 4) rfl
 go_enter Tryz.func56, Tryz.ntmps56
 go_wp2_with fail
 clear hW0 x4
 refine (sPast a4 p.p.length c4 p.p g _ hl1 (pasts_tags H4.out)).mono ?_
 rintro r w1 ⟨rfl, hb⟩
 have HB1 := hidHSa (HB0.out.trans (hb.mono HB0.out.size))
 have X1 := hidHSa (BX.out.below hb)
 have H51 := hidHSa (H5.out.below hb)
 clear hb
 cases hh : hasB p.p p.p.length g
 case true =>
  have HY : Hid (knowsB p g = true) := knows_two.2 (.inl hh)
  clear hh
  go_wp2
  go_ret
  exact ⟨ret_bool HY.out.symm, HB1.out⟩
 have HH := hidHSa hh
 clear hh
 have x5 := X1.out.cell (i := 5) rfl
 go_wp2_with fail
 clear x5
 refine (sFind_any a5 c5 p.t g _ (by omega) H51.out).mono ?_
 rintro r w2 ⟨hR, hw⟩
 obtain rfl := hw.symm
 rcases hR with ⟨i, rfl, hi, hg⟩ | ⟨rfl, hn⟩
 ·have HY : Hid (knowsB p g = true) := knows_two.2 (.inr ⟨i, hi, hg⟩)
  have hi0 : (0 : Int) ≤ (i : Int) := by omega
  clear hi hg
  go_wp2
  go_ret
  exact ⟨ret_bool HY.out.symm, HB1.out⟩
 ·have HN : Hid (knowsB p g = false) := by
   show knowsB p g = false
   cases hk : knowsB p g
   ·rfl
   ·rcases knows_two.1 hk with h1 | ⟨i, hi, e⟩
    ·rw [HH.out] at h1; cases h1
    ·exact absurd e (hn i hi)
  clear hn
  go_wp2
  go_ret
  exact ⟨ret_bool HN.out.symm, HB1.out⟩
end Go.Proofs.YtnccenbkpocjgaaGreat
/- The specification's l4hear. -/
namespace Go.Proofs.YtnccenbkpocjgaaGreat
open Go.RowKit
theorem SrcC.past9 {w : World} {a : Option Addr} {n cap c k : Nat} {cs : List Value} (h : SrcC w (.slice a n cap) c n cs) (hk : k ≤ n) (hcap : n ≤ cap) : SrcC w (sliced a k n cap c) c (n - k) (cs.drop (k * c)) := by
 obtain ⟨hl, a', c', e, h⟩ := h
 cases e
 refine ⟨by rw [List.length_drop, hl, Nat.sub_mul], ?_⟩
 unfold sliced
 by_cases h0 : k = n
 ·exact ⟨_, _, rfl, .inl (by omega)⟩
 ·rw [if_neg (by omega)]
  rcases h with h | ⟨b, off, rfl, hb, hc⟩
  ·omega
  ·refine ⟨_, _, rfl, .inr ⟨b, off + k * c, by simp [Addr.add_lit], hb, fun j hj => ?_⟩⟩
   have hm : (n - k) * c = n * c - k * c := Nat.sub_mul _ _ _
   have hkc : k * c ≤ n * c := Nat.mul_le_mul_right _ hk
   rw [List.getElem?_drop, Nat.add_assoc]
   exact hc (k * c + j) (by omega)
end Go.Proofs.YtnccenbkpocjgaaGreat
/- A tag that is not to be done is noted, in its place. -/
namespace Go.Proofs.YtnccenbkpocjgaaGreat
open Go.RowKit
def PosZ (l : List Int) (z : Int) (k : Nat) : Prop := k ≤ l.length ∧ (∀ j, j < k → intAt l j < z) ∧ (k < l.length → ¬ intAt l k < z)
def posZ (l : List Int) (z : Int) : Nat := (l.takeWhile fun q => decide (q < z)).length
theorem posZ_at : ∀ (l : List Int) (z : Int), PosZ l z (posZ l z)
 | [], z => ⟨by simp [posZ], fun j hj => by simp [posZ] at hj, fun h => by simp [posZ] at h⟩
 | q :: l, z => by
  by_cases h : q < z
  ·have e1 : posZ (q :: l) z = posZ l z + 1 := by simp [posZ, h]
   obtain ⟨h1, h2, h3⟩ := posZ_at l z
   rw [e1]
   refine ⟨by simpa using h1, fun j hj => ?_, fun hlt => ?_⟩
   ·cases j with
    | zero => simpa [intAt] using h
    | succ j => simpa [intAt] using h2 j (by omega)
   ·have := h3 (by simpa using hlt)
    simpa [intAt] using this
  ·have e1 : posZ (q :: l) z = 0 := by simp [posZ, h]
   rw [e1]
   exact ⟨Nat.zero_le _, fun j hj => by omega, fun _ => by simpa [intAt] using h⟩
theorem PosZ.is {l : List Int} {z : Int} {i : Nat} (hi : PosZ l z i) : i = posZ l z := by
 have hj := posZ_at l z
 rcases Nat.lt_trichotomy i (posZ l z) with hl | hl | hl
 ·exact absurd (hj.2.1 i hl) (hi.2.2 (by have := hj.1; omega))
 ·exact hl
 ·exact absurd (hi.2.1 _ hl) (hj.2.2 (by have := hi.1; omega))
theorem FoundZ.pos {l : List Int} {z : Int} {i : Nat} {f : Bool} (h : FoundZ l z i f) (ha : Asc l) : PosZ l z i := by
 refine ⟨h.le, fun j hj => ?_, h.hi⟩
 have h1 := h.lo.resolve_left (by omega)
 by_cases e : j = i - 1
 ·rw [e]; exact h1
 ·have := asc_lt ha (i - 1 - j - 1) j (by have := h.le; omega)
  rw [show j + (i - 1 - j - 1) + 1 = i - 1 by omega] at this
  omega
noncomputable def markL (l : List Int) (z : Int) : List Int := match antiO l z with
 | some _ => l
 | none => l.take (posZ l z) ++ z :: l.drop (posZ l z)
theorem markL_some {l : List Int} {z : Int} {i : Nat} (h : antiO l z = some i) : markL l z = l := by unfold markL; rw [h]
theorem markL_none {l : List Int} {z : Int} (h : antiO l z = none) : markL l z = l.take (posZ l z) ++ z :: l.drop (posZ l z) := by unfold markL; rw [h]
theorem markL_len (l : List Int) (z : Int) : (markL l z).length ≤ l.length + 1 := by
 unfold markL
 split
 ·omega
 ·rw [List.length_append, List.length_cons, List.length_take, List.length_drop]
  have := (posZ_at l z).1
  omega
theorem put_intCells (l : List Int) (z : Int) (i : Nat) : (intCells l).take (i * 1) ++ [Value.int .i64 z] ++ (intCells l).drop (i * 1) = intCells (l.take i ++ z :: l.drop i) := by
 unfold intCells
 rw [Nat.mul_one, List.map_append, List.map_cons, List.map_take, List.map_drop, List.append_assoc]
 rfl
noncomputable def Pa.setA (p : Pa) (l : List Int) : Pa := ⟨p.n, p.st, p.p, p.t, l⟩
set_option maxRecDepth 100000 in
set_option maxHeartbeats 8000000 in
theorem addAnti_any (B D : Nat) (vr vp vt va vu : Value) (A1 A4 : Nat → Prop) (p : Pa) (u : List Ev) (g : Int) (w : World) (hl : p.a.length ≤ 1048577) (ha : Asc p.a) (hB : B ≤ w.heap.size) (h : DoR B D w vr vp vt va vu A1 A4 p u) :
  Calls Tryz.prog 127 #[.pointer (some ⟨D, 0, none⟩), .int .i64 g] w fun r w' => (∃ q, r = .returned q) ∧ (∃ va', DoR B D w' vr vp vt va' vu A1 A4 (p.setA (markL p.a g)) u) ∧ Below B w w' := by
 have HH : Hid (DoR B D w vr vp vt va vu A1 A4 p u) := h
 have HA : Hid (Asc p.a) := ha
 obtain ⟨a6, c6, rfl⟩ := owns_slice h.cp.antis
 have HO : Hid (w.ownsRow B 3 1 (.slice a6 p.a.length c6) p.a.length (intCells p.a)) := h.cp.antis
 have HI : Hid (IsI w (.slice a6 p.a.length c6) p.a) := ((RowF.of_owns (by rw [intCells_length]; omega) h.cp.antis).own.isD).isI
 have d6 := h.blk.cell (i := 6) rfl
 clear h ha
 go_enter Tryz.func127, Tryz.ntmps127
 go_wp2_with fail
 refine (searchI_any a6 c6 p.a g _ hl HI.out).mono ?_
 rintro r w1 ⟨⟨i, f, rfl, hF⟩, hw⟩
 obtain rfl := hw.symm
 have HF := hF.anti HA.out
 have HPZ : Hid (i = posZ p.a g) := (hF.pos HA.out).is
 have HLE : Hid (i ≤ p.a.length) := hF.le
 clear hF
 cases f
 case true =>
  have HN : Hid (antiO p.a g = some i) := (by simpa using HF : antiO p.a g = _)
  clear HF
  go_wp2
  go_end0
  refine ⟨⟨_, rfl⟩, ⟨.slice a6 p.a.length c6, ?_⟩, Below.refl _ _⟩
  rw [markL_some HN.out]
  exact HH.out
 have HN : Hid (antiO p.a g = none) := (by simpa using HF : antiO p.a g = _)
 clear HF
 obtain ⟨V1, hV1⟩ : ∃ V, w.alloc (.cells #[.int .i64 g] 3) = V := ⟨_, rfl⟩
 have hbV : Below w.heap.size w V1 := hV1 ▸ (Below.refl _ w).alloc (Nat.le_refl _) _
 have HBV : Hid (Below w.heap.size w V1) := hbV
 have HO1 : Hid (V1.ownsRow B 3 1 (.slice a6 p.a.length c6) p.a.length (intCells p.a)) := owns_turns (S := fun _ => False) HO.out (Turns.of_below hbV) (fun _ _ => id)
 have HN1 : Hid (V1.heap[w.heap.size]? = some (.cells [Value.int .i64 g].toArray 3 (0, 0))) := by (rw [← hV1]; exact heap_alloc_new w _)
 have HNQ : Hid (¬ (Value.slice a6 p.a.length c6).ownBlock = some w.heap.size) := fun e1 => by have := owns_lt HO.out e1; omega
 have hD1 := HH.out.below hbV
 have HH1 : Hid (DoR B D V1 vr vp vt (.slice a6 p.a.length c6) vu A1 A4 p u) := hD1
 have c6' := hD1.blk.cell (i := 6) rfl
 clear hbV hD1
 go_wp2_with fail
 clear hV1 d6 c6'
 refine (insi_any B (.slice a6 p.a.length c6) p.a.length i w.heap.size (intCells p.a) [Value.int .i64 g] V1 HLE.out (by omega) (iOnes _) rfl (by intro v hv; simp at hv; subst hv; rfl) HN1.out HNQ.out (by have := HBV.out.size; omega) HO1.out).mono ?_
 rintro r w3 ⟨vn, rfl, hown, hgrow, hnew⟩
 obtain ⟨an, cn, hvn⟩ := owns_slice hown
 subst hvn
 have hgt := grown_turns hgrow
 have HT : Hid (Turns (fun q => (Value.slice a6 p.a.length c6).ownBlock = some q) V1 w3) := hgt
 have HD3 : Hid (Bk w3 D 157 #[vr, .int .i64 p.st.q, .int .i64 p.st.d, .int .i64 p.n, vp, vt, .slice a6 p.a.length c6, vu]) := HH1.out.blk.turns hgt HH1.out.neT.2.1
 have HO3 : Hid (w3.ownsRow B 3 1 (.slice an (p.a.length + 1) cn) (p.a.length + 1) (intCells (p.a.take i ++ g :: p.a.drop i))) := by rw [put_intCells] at hown; exact hown
 have HNR : Hid (NewRow V1 (.slice a6 p.a.length c6) (.slice an (p.a.length + 1) cn)) := hnew
 clear hown hgrow hnew hgt
 have e6 := HD3.out.cell (i := 6) rfl
 have ef := HD3.out.free
 go_wp2
 go_end0
 have hlen : (p.a.take i ++ g :: p.a.drop i).length = p.a.length + 1 := by
  have := HLE.out
  rw [List.length_append, List.length_cons, List.length_take, List.length_drop]
  omega
 obtain ⟨q1, q2⟩ := HH1.out.setA HT.out (va' := .slice an (p.a.length + 1) cn) (l := p.a.take i ++ g :: p.a.drop i) (by rw [hlen]; exact HO3.out) HNR.out _ rfl
 refine ⟨⟨_, rfl⟩, ⟨.slice an (p.a.length + 1) cn, ?_⟩, ?_⟩
 ·rw [markL_none HN.out, ← HPZ.out]
  exact q1
 ·refine (HBV.out.mono hB).trans (q2.to_below (fun k hk => ?_) (by have := HBV.out.size; omega))
  rcases hk with hk | hk
  ·exact hk ▸ HH.out.lo
  ·exact (World.ownsRow.lt HO.out k hk).1
end Go.Proofs.YtnccenbkpocjgaaGreat
