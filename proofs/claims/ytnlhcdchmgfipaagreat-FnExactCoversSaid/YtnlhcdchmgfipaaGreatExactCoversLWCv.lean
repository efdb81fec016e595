/- WCv -/
import Derived.Test.YtnlhcdchmgfipaaGreatExactWorldOkG43
import Derived.Test.YtnlhcdchmgfipaaGreatExactCoversG01
/- Covers: which run a vector is of. -/
namespace Go.Proofs.YtnlhcdchmgfipaaGreat
open Go.RowKit
def firstC (l : List (List Int)) (d : List Int) : Nat → Nat → Option Nat
 | _, 0 => none
 | i, n + 1 => if meetB (vAt l i) d = true then some i else firstC l d (i + 1) n
noncomputable def covA (v : Wd) (d : List Int) : Int := if v.ok = true ∧ vok d = true then (match firstC (dsOf v.k) d 0 v.k.length with | some i => (i : Int) | none => -1) else -1
theorem firstC_some {l : List (List Int)} {d : List Int} : ∀ (n i j : Nat), j < n → meetB (vAt l (i + j)) d = true → (∀ q, q < j → meetB (vAt l (i + q)) d = false) → firstC l d i n = some (i + j)
 | 0, i, j, hj, _, _ => by omega
 | n + 1, i, j, hj, h1, h2 => by
  unfold firstC
  by_cases h0 : j = 0
  ·subst h0
   rw [if_pos (by simpa using h1)]
   rfl
  ·have h3 := h2 0 (by omega)
   rw [Nat.add_zero] at h3
   rw [if_neg (by rw [h3]; simp), firstC_some n (i + 1) (j - 1) (by omega) (by rw [show i + 1 + (j - 1) = i + j by omega]; exact h1) (fun q hq => by rw [show i + 1 + q = i + (q + 1) by omega]; exact h2 (q + 1) (by omega))]
   rw [show i + 1 + (j - 1) = i + j by omega]
theorem firstC_none {l : List (List Int)} {d : List Int} : ∀ (n i : Nat), (∀ q, q < n → meetB (vAt l (i + q)) d = false) → firstC l d i n = none
 | 0, i, _ => rfl
 | n + 1, i, h => by
  unfold firstC
  have h3 := h 0 (by omega)
  rw [Nat.add_zero] at h3
  rw [if_neg (by rw [h3]; simp), firstC_none n (i + 1) (fun q hq => by rw [show i + 1 + q = i + (q + 1) by omega]; exact h (q + 1) (by omega))]
theorem covA_no {v : Wd} {d : List Int} (h : v.ok = false ∨ vok d = false) : covA v d = -1 := by
 unfold covA
 rw [if_neg (by rcases h with h | h <;> rw [h] <;> simp)]
theorem covA_some {v : Wd} {d : List Int} {j : Nat} (h1 : v.ok = true) (h2 : vok d = true) (hj : j < v.k.length) (h3 : meetB (knAt v.k j).d d = true) (h4 : ∀ q, q < j → meetB (knAt v.k q).d d = false) : covA v d = (j : Int) := by
 unfold covA
 rw [if_pos ⟨h1, h2⟩, firstC_some v.k.length 0 j hj (by rw [Nat.zero_add, dsOf_at hj]; exact h3) (fun q hq => by rw [Nat.zero_add, dsOf_at (by omega)]; exact h4 q hq)]
 simp
theorem covA_none {v : Wd} {d : List Int} (h4 : ∀ q, q < v.k.length → meetB (knAt v.k q).d d = false) : covA v d = -1 := by
 unfold covA
 split
 ·rw [firstC_none v.k.length 0 (fun q hq => by rw [Nat.zero_add, dsOf_at hq]; exact h4 q hq)]
 ·rfl
theorem d_len {v : Wd} (h : SmallKs v.k) {j : Nat} (hj : j < v.k.length) : (knAt v.k j).d.length ≤ 1048576 := by
 have h9 := vecs_len h j (by rw [dsOf_len]; exact hj)
 rw [dsOf_at hj] at h9
 exact h9
set_option maxRecDepth 100000 in
set_option maxHeartbeats 16000000 in
theorem sCovers (x : Value) (v : Wd) (z : Value) (d : List Int) (w : World) (hs : SmallWd v) (hdl : d.length ≤ 1048576) (h : IsW w x v) (hz : IsI w z d) :
  Calls Tryz.prog 36 #[x, z] w fun e w' => e = .returned (.int .i64 (covA v d)) ∧ Below w.heap.size w w' := by
 have HSW : Hid (SmallWd v) := hs
 have HZ : Hid (IsI w z d) := hz
 obtain ⟨za, zc, rfl, _⟩ := hz
 have HSM : Hid (SmallM v.m) := hs.1
 have HSK : Hid (SmallKs v.k) := hs.2.1
 have HSV : Hid ((vecsD v.c).wt ≤ 1048576) := hs.2.2
 have hkl : v.k.length ≤ 1048576 := hs.2.1.1
 have hcl : v.c.length ≤ 1048576 := by have h9 := hs.2.2; rw [vecs_wt] at h9; omega
 obtain ⟨ai, ci, ah, ch, ae, ce, ak, ck, ac, cc, rfl, hm, hk, hc⟩ := h.form
 have HWW : Hid (IsW w (.agg #[.int .i64 v.m.n, .int .i64 v.m.s, .slice ai v.m.i.length ci, .slice ah v.m.h.length ch, .slice ae v.m.e.length ce, .int .i64 v.m.z, .slice ak v.k.length ck, .slice ac v.c.length cc]) v) := h
 have HMW : Hid (IsM w (.agg #[.int .i64 v.m.n, .int .i64 v.m.s, .slice ai v.m.i.length ci, .slice ah v.m.h.length ch, .slice ae v.m.e.length ce, .int .i64 v.m.z]) v.m) := hm
 have HKS : Hid (v.k.length = 0 ∨ ∃ b off, ak = some ⟨b, off, none⟩ ∧ b < w.heap.size ∧ ∀ i, i < v.k.length → KAt w b (off + i * 14) (knAt v.k i)) := hk
 have HCS : Hid (v.c.length = 0 ∨ ∃ b off, ac = some ⟨b, off, none⟩ ∧ b < w.heap.size ∧ ∀ j, j < v.c.length → ∃ u, w.cell? ⟨b, off + j, none⟩ = some u ∧ IsD w u (intsD (vAt v.c j))) := hc
 clear h hm hk hc
 obtain ⟨W0, hW0⟩ : ∃ W0, w.alloc (.cells #[.int .i64 v.m.n, .int .i64 v.m.s, .slice ai v.m.i.length ci, .slice ah v.m.h.length ch, .slice ae v.m.e.length ce, .int .i64 v.m.z, .slice ak v.k.length ck, .slice ac v.c.length cc] 60) = W0 := ⟨_, rfl⟩
 have HB0 : Hid (Below w.heap.size w W0) := by rw [← hW0]; exact (Below.refl _ w).alloc (Nat.le_refl _) _
 have HP0 : Hid (Bk W0 w.heap.size 60 #[.int .i64 v.m.n, .int .i64 v.m.s, .slice ai v.m.i.length ci, .slice ah v.m.h.length ch, .slice ae v.m.e.length ce, .int .i64 v.m.z, .slice ak v.k.length ck, .slice ac v.c.length cc]) := by rw [← hW0]; exact Bk.new w _ _
 have q0 := HP0.out.cell (i := 0) rfl
 have q1 := HP0.out.cell (i := 1) rfl
 have q2 := HP0.out.cell (i := 2) rfl
 have q3 := HP0.out.cell (i := 3) rfl
 have q4 := HP0.out.cell (i := 4) rfl
 have q5 := HP0.out.cell (i := 5) rfl
 have q6 := HP0.out.cell (i := 6) rfl
 have q7 := HP0.out.cell (i := 7) rfl
 go_enter Tryz.func36, Tryz.ntmps36
 go_wp2_with fail
 clear q0 q1 q2 q3 q4 q5 q6 q7 hW0
 refine (sWorldOk _ v _ HSW.out (HWW.out.under HB0.out)).mono ?_
 rintro e w1 ⟨rfl, hb1⟩
 have HB1 : Hid (Below w.heap.size w w1) := HB0.out.trans (hb1.mono HB0.out.size)
 have HP1 : Hid (Bk w1 w.heap.size 60 #[.int .i64 v.m.n, .int .i64 v.m.s, .slice ai v.m.i.length ci, .slice ah v.m.h.length ch, .slice ae v.m.e.length ce, .int .i64 v.m.z, .slice ak v.k.length ck, .slice ac v.c.length cc]) := HP0.out.below hb1
 clear hb1 HB0 HP0
 cases hok : v.ok
 case false =>
  have HN : Hid (covA v d = -1) := covA_no (.inl hok)
  clear hok
  go_wp2
  go_ret
  exact ⟨ret_int HN.out.symm, HB1.out⟩
 have HOK : Hid (v.ok = true) := hok
 clear hok
 go_wp2_with fail
 refine (sVok_any _ d _ (by omega) (HZ.out.below HB1.out)).mono ?_
 rintro e w2 ⟨rfl, hw2⟩
 have hw2' := hw2.symm
 clear hw2
 subst hw2'
 cases hvo : vok d
 case false =>
  have HN : Hid (covA v d = -1) := covA_no (.inr hvo)
  clear hvo
  go_wp2
  go_ret
  exact ⟨ret_int HN.out.symm, HB1.out⟩
 have HVO : Hid (vok d = true) := hvo
 clear hvo
 go_wp2
 go_loopw [5] (fun i wr => ∃ j : Nat, j ≤ v.k.length ∧ i = .int .i64 j ∧ Hid (∀ q, q < j → meetB (knAt v.k q).d d = false) ∧ Hid (Below w1.heap.size w1 wr)) (fun i _ => v.k.length - (intOf i).toNat)
 case atStart => exact ⟨0, Nat.zero_le _, rfl, fun q hq => by omega, Below.refl _ _⟩
 case round =>
  obtain ⟨j, hj, rfl, HA, HBr⟩ := hrel
  have HBw : Hid (Below w.heap.size w wr) := HB1.out.trans (HBr.out.mono HB1.out.size)
  have HPr : Hid (Bk wr w.heap.size 60 #[.int .i64 v.m.n, .int .i64 v.m.s, .slice ai v.m.i.length ci, .slice ah v.m.h.length ch, .slice ae v.m.e.length ce, .int .i64 v.m.z, .slice ak v.k.length ck, .slice ac v.c.length cc]) := HP1.out.below HBr.out
  have hq := HPr.out.cell (i := 6) rfl
  by_cases hlt : j < v.k.length
  case pos =>
   obtain ⟨b, off, rfl, hbl, hKA⟩ := HKS.out.resolve_left (by omega)
   obtain ⟨ki, di, kh, dh, ke, de, k6, d6, k7, d7, k8, d8, k12, d12, k13, d13, ⟨_, _, _, _, _, _, f6, _, _, _, _, _, _, _⟩, hkn, hkm, hkd⟩ := (hKA j hlt).form
   have f6 := (HBw.out.cell (p := ⟨b, _, none⟩) hbl).trans f6
   have HDW : Hid (IsD w (.slice k6 (knAt v.k j).d.length d6) (intsD (knAt v.k j).d)) := hkd
   have hvl : (knAt v.k j).d.length ≤ 1048576 := by have h9 := vecs_len HSK.out j (by rw [dsOf_len]; exact hlt); rw [dsOf_at hlt] at h9; exact h9
   clear hkn hkm hkd hKA
   go_wp2_with fail
   clear f6
   clear hq
   have HVK : Hid (vok (knAt v.k j).d = true) := (kok_vok (runB_iff.1 ((wok_iff.1 HOK.out).2.1 j hlt)).1).2
   refine (sMeet_is _ _ (knAt v.k j).d d _ HVK.out HVO.out ((HDW.out.under HBw.out).isI) (HZ.out.below HBw.out)).mono ?_
   rintro e w2 ⟨rfl, hb2⟩
   have HB2 : Hid (Below w1.heap.size w1 w2) := HBr.out.trans (hb2.mono HBr.out.size)
   have HB2w : Hid (Below w.heap.size w w2) := HBw.out.trans (hb2.mono HBw.out.size)
   clear hb2
   cases hm : meetB (knAt v.k j).d d
   case true =>
    have HY : Hid (covA v d = (j : Int)) := covA_some HOK.out HVO.out hlt hm HA.out
    clear hm
    go_wp2
    go_ret
    exact ⟨ret_int HY.out.symm, HB2w.out⟩
   have HM : Hid (meetB (knAt v.k j).d d = false) := hm
   clear hm
   go_wp2
   go_roundw
   case rel => exact ⟨j + 1, by omega, by go_num, fun q hq => by
    by_cases e : q = j
    ·subst e; exact HM.out
    ·exact HA.out q (by omega), HB2.out⟩
   case measure => simp [intOf]; omega
  case neg =>
   have hje : j = v.k.length := by omega
   have HN : Hid (covA v d = -1) := covA_none (fun q hq => HA.out q (by omega))
   subst hje
   go_wp2
   go_ret
   exact ⟨ret_int HN.out.symm, HBw.out⟩
theorem iMeet_b (x y : Value) (l r : List Int) (w : World) (hl : l.length ≤ 4611686018427387904) (hr : r.length ≤ 4611686018427387904) (h : IsI w x l) (k : IsI w y r) :
  Calls Tryz.prog 100 #[x, y] w fun e w' => e = .returned (.bool (vok l && (vok r && meetB l r))) ∧ Below w.heap.size w w' := by
 rw [← Bool.and_assoc]
 exact iMeets_any x y l r w hl hr h k
set_option maxRecDepth 100000 in
set_option maxHeartbeats 4000000 in
theorem cov1_any (k : Kn) (x : Value) (Bt : Nat) (z : Value) (d : List Int) (w : World) (hkl : k.d.length ≤ 1048576) (hdl : d.length ≤ 1048576) (h : IsKern w x k) (hz : IsI w z d) (hb : Bt < w.heap.size) (hc : w.cell? ⟨Bt, 0, none⟩ = some z) :
  Calls Tryz.prog 99 #[x, .pointer (some ⟨Bt, 0, none⟩)] w fun e w' => e = .returned (.bool (vok k.d && (vok d && meetB k.d d))) ∧ Below w.heap.size w w' := by
 obtain ⟨vi, vh, vs, u6, u7, u8, u12, u13, rfl, _, h6, _⟩ := h
 have HD : Hid (IsI w u6 k.d) := h6.isI
 have HZ : Hid (IsI w z d) := hz
 obtain ⟨W0, hW0⟩ : ∃ V, w.alloc (.cells #[.int .i64 k.m.n, .int .i64 k.m.s, vi, vh, vs, .int .i64 k.m.z, u6, u7, u8, .int .i64 k.t, .int .i64 k.q, .bool k.f, u12, u13] 42) = V := ⟨_, rfl⟩
 have hb0 : Below w.heap.size w W0 := hW0 ▸ (Below.refl _ w).alloc (Nat.le_refl _) _
 have HB0 : Hid (Below w.heap.size w W0) := hb0
 have BX : Bk W0 w.heap.size 42 #[.int .i64 k.m.n, .int .i64 k.m.s, vi, vh, vs, .int .i64 k.m.z, u6, u7, u8, .int .i64 k.t, .int .i64 k.q, .bool k.f, u12, u13] := hW0 ▸ Bk.new w _ _
 have x6 := BX.cell (i := 6) rfl
 have hc0 : W0.cell? ⟨Bt, 0, none⟩ = some z := (hb0.cell (p := ⟨Bt, 0, none⟩) hb).trans hc
 clear hb0 BX hc h6 hz
 go_enter Tryz.func99, Tryz.ntmps99
 go_wp2_with fail
 clear x6 hc0 hW0
 refine (iMeet_b _ _ k.d d _ (by omega) (by omega) (HD.out.below HB0.out) (HZ.out.below HB0.out)).mono ?_
 rintro e w1 ⟨rfl, hb1⟩
 have HB1 : Hid (Below w.heap.size w w1) := HB0.out.trans (hb1.mono HB0.out.size)
 clear hb1
 go_wp2
 go_ret
 exact ⟨rfl, HB1.out⟩
def idxK (v : Wd) (d : List Int) (r : Ending) : Prop := (∃ i : Nat, r = .returned (.int .i64 (i : Int)) ∧ i < v.k.length ∧ (vok (knAt v.k i).d && (vok d && meetB (knAt v.k i).d d)) = true ∧ ∀ q, q < i → (vok (knAt v.k q).d && (vok d && meetB (knAt v.k q).d d)) = false) ∨ (r = .returned (.int .i64 (-1)) ∧ ∀ q, q < v.k.length → (vok (knAt v.k q).d && (vok d && meetB (knAt v.k q).d d)) = false)
set_option maxRecDepth 100000 in
set_option maxHeartbeats 16000000 in
theorem idxK_any (ak : Option Addr) (ck : Nat) (v : Wd) (Bt : Nat) (z : Value) (d : List Int) (w : World) (hS : SmallKs v.k) (hdl : d.length ≤ 1048576) (hz : IsI w z d) (hb : Bt < w.heap.size) (hc : w.cell? ⟨Bt, 0, none⟩ = some z)
  (h : v.k.length = 0 ∨ ∃ b off, ak = some ⟨b, off, none⟩ ∧ b < w.heap.size ∧ ∀ i, i < v.k.length → KAt w b (off + i * 14) (knAt v.k i)) :
  Calls Tryz.prog 98 #[.slice ak v.k.length ck, .func (.func 99) #[] #[.pointer (some ⟨Bt, 0, none⟩)]] w fun r w' => idxK v d r ∧ Below w.heap.size w w' := by
 have HKS : Hid (v.k.length = 0 ∨ ∃ b off, ak = some ⟨b, off, none⟩ ∧ b < w.heap.size ∧ ∀ i, i < v.k.length → KAt w b (off + i * 14) (knAt v.k i)) := h
 have HC : Hid (w.cell? ⟨Bt, 0, none⟩ = some z) := hc
 have HZ : Hid (IsI w z d) := hz
 have HSK : Hid (SmallKs v.k) := hS
 have hkl : v.k.length ≤ 1048576 := hS.1
 clear h hc hz hS
 go_enter Tryz.func98, Tryz.ntmps98
 go_wp2
 go_loopw [8] (fun i wr => Hid (Below w.heap.size w wr) ∧ ∃ j : Nat, j ≤ v.k.length ∧ i = .int .i64 j ∧ Hid (∀ q, q < j → (vok (knAt v.k q).d && (vok d && meetB (knAt v.k q).d d)) = false)) (fun i _ => v.k.length - (intOf i).toNat)
 case atStart => exact ⟨Below.refl _ _, 0, Nat.zero_le _, rfl, fun q hq => by omega⟩
 case round =>
  obtain ⟨HBw, j, hj, rfl, HA⟩ := hrel
  have hsz : w.heap.size ≤ wr.heap.size := HBw.out.size
  by_cases hlt : j < v.k.length
  case pos =>
   have hjd : decide ((j : Int) < (v.k.length : Int)) = true := by simpa using hlt
   obtain ⟨b, off, rfl, hbl, hKA⟩ := HKS.out.resolve_left (by omega)
   obtain ⟨ki, di, kh, dh, ke, de, k6, d6, k7, d7, k8, d8, k12, d12, k13, d13, ⟨f0, f1, f2, f3, f4, f5, f6, f7, f8, f9, f10, f11, f12, f13⟩, hkn, _, _⟩ := (hKA j hlt).form
   have f0 := (HBw.out.cell (p := ⟨b, _, none⟩) hbl).trans f0
   have f1 := (HBw.out.cell (p := ⟨b, _, none⟩) hbl).trans f1
   have f2 := (HBw.out.cell (p := ⟨b, _, none⟩) hbl).trans f2
   have f3 := (HBw.out.cell (p := ⟨b, _, none⟩) hbl).trans f3
   have f4 := (HBw.out.cell (p := ⟨b, _, none⟩) hbl).trans f4
   have f5 := (HBw.out.cell (p := ⟨b, _, none⟩) hbl).trans f5
   have f6 := (HBw.out.cell (p := ⟨b, _, none⟩) hbl).trans f6
   have f7 := (HBw.out.cell (p := ⟨b, _, none⟩) hbl).trans f7
   have f8 := (HBw.out.cell (p := ⟨b, _, none⟩) hbl).trans f8
   have f9 := (HBw.out.cell (p := ⟨b, _, none⟩) hbl).trans f9
   have f10 := (HBw.out.cell (p := ⟨b, _, none⟩) hbl).trans f10
   have f11 := (HBw.out.cell (p := ⟨b, _, none⟩) hbl).trans f11
   have f12 := (HBw.out.cell (p := ⟨b, _, none⟩) hbl).trans f12
   have f13 := (HBw.out.cell (p := ⟨b, _, none⟩) hbl).trans f13
   have HKI : Hid (IsKern wr (.agg #[.int .i64 (knAt v.k j).m.n, .int .i64 (knAt v.k j).m.s, .slice ki (knAt v.k j).m.i.length di, .slice kh (knAt v.k j).m.h.length dh, .slice ke (knAt v.k j).m.e.length de, .int .i64 (knAt v.k j).m.z, .slice k6 (knAt v.k j).d.length d6, .slice k7 (knAt v.k j).p.length d7, .slice k8 (knAt v.k j).b.length d8, .int .i64 (knAt v.k j).t, .int .i64 (knAt v.k j).q, .bool (knAt v.k j).f, .slice k12 (knAt v.k j).s.length d12, .slice k13 (knAt v.k j).x.length d13]) (knAt v.k j)) := hkn.under HBw.out
   have hdk := d_len HSK.out hlt
   have HCT : Hid (wr.cell? ⟨Bt, 0, none⟩ = some z) := (HBw.out.cell (p := ⟨Bt, 0, none⟩) hb).trans HC.out
   clear hkn hKA
   go_wp2_with fail
   clear f0 f1 f2 f3 f4 f5 f6 f7 f8 f9 f10 f11 f12 f13
   refine (cov1_any (knAt v.k j) _ Bt z d _ hdk hdl HKI.out (HZ.out.below HBw.out) (by omega) HCT.out).mono ?_
   rintro e w2 ⟨rfl, hb2⟩
   have HB2 : Hid (Below w.heap.size w w2) := HBw.out.trans (hb2.mono hsz)
   clear hb2
   obtain ⟨c, hc⟩ : ∃ c, (vok (knAt v.k j).d && (vok d && meetB (knAt v.k j).d d)) = c := ⟨_, rfl⟩
   rw [hc]
   cases c
   case true =>
    have HY : Hid ((vok (knAt v.k j).d && (vok d && meetB (knAt v.k j).d d)) = true) := hc
    clear hc
    go_wp2
    go_ret
    exact ⟨.inl ⟨j, rfl, hlt, HY.out, HA.out⟩, HB2.out⟩
   case false =>
    have HN : Hid ((vok (knAt v.k j).d && (vok d && meetB (knAt v.k j).d d)) = false) := hc
    clear hc
    go_wp2
    go_roundw
    case rel => exact ⟨HB2.out, j + 1, by omega, by go_num, fun q hq => by
     by_cases e : q = j
     ·subst e; exact HN.out
     ·exact HA.out q (by omega)⟩
    case measure => simp [intOf]; omega
  case neg =>
   have hje : j = v.k.length := by omega
   subst hje
   go_wp2
   go_ret
   exact ⟨.inr ⟨rfl, HA.out⟩, HBw.out⟩
theorem idxK_cov {v : Wd} {d : List Int} {r : Ending} (hok : v.ok = true) (h : idxK v d r) : r = .returned (.int .i64 (covA v d)) := by
 have hv : ∀ i, i < v.k.length → vok (knAt v.k i).d = true := fun i hi => (kok_vok (runB_iff.1 ((wok_iff.1 hok).2.1 i hi)).1).2
 cases hd : vok d
 ·rw [covA_no (.inr hd)]
  rcases h with ⟨i, rfl, hi, h1, _⟩ | ⟨rfl, _⟩
  ·rw [hd] at h1
   simp at h1
  ·rfl
 ·have hm : ∀ i, i < v.k.length → (vok (knAt v.k i).d && (vok d && meetB (knAt v.k i).d d)) = meetB (knAt v.k i).d d := fun i hi => by rw [hv i hi, hd]; rfl
  rcases h with ⟨i, rfl, hi, h1, h2⟩ | ⟨rfl, h2⟩
  ·rw [covA_some hok hd hi (by rw [← hm i hi]; exact h1) (fun q hq => by rw [← hm q (by omega)]; exact h2 q hq)]
  ·rw [covA_none (fun q hq => by rw [← hm q hq]; exact h2 q hq)]
set_option maxRecDepth 100000 in
set_option maxHeartbeats 16000000 in
theorem iCovers (x : Value) (v : Wd) (z : Value) (d : List Int) (w : World) (hs : SmallWd v) (hdl : d.length ≤ 1048576) (h : IsW w x v) (hz : IsI w z d) :
  Calls Tryz.prog 38 #[x, z] w fun e w' => e = .returned (.int .i64 (covA v d)) ∧ Below w.heap.size w w' := by
 have HSW : Hid (SmallWd v) := hs
 have HZ : Hid (IsI w z d) := hz
 obtain ⟨za, zc, rfl, _⟩ := hz
 have HSM : Hid (SmallM v.m) := hs.1
 have HSK : Hid (SmallKs v.k) := hs.2.1
 have HSV : Hid ((vecsD v.c).wt ≤ 1048576) := hs.2.2
 have hkl : v.k.length ≤ 1048576 := hs.2.1.1
 have hcl : v.c.length ≤ 1048576 := by have h9 := hs.2.2; rw [vecs_wt] at h9; omega
 obtain ⟨ai, ci, ah, ch, ae, ce, ak, ck, ac, cc, rfl, hm, hk, hc⟩ := h.form
 have HWW : Hid (IsW w (.agg #[.int .i64 v.m.n, .int .i64 v.m.s, .slice ai v.m.i.length ci, .slice ah v.m.h.length ch, .slice ae v.m.e.length ce, .int .i64 v.m.z, .slice ak v.k.length ck, .slice ac v.c.length cc]) v) := h
 have HMW : Hid (IsM w (.agg #[.int .i64 v.m.n, .int .i64 v.m.s, .slice ai v.m.i.length ci, .slice ah v.m.h.length ch, .slice ae v.m.e.length ce, .int .i64 v.m.z]) v.m) := hm
 have HKS : Hid (v.k.length = 0 ∨ ∃ b off, ak = some ⟨b, off, none⟩ ∧ b < w.heap.size ∧ ∀ i, i < v.k.length → KAt w b (off + i * 14) (knAt v.k i)) := hk
 have HCS : Hid (v.c.length = 0 ∨ ∃ b off, ac = some ⟨b, off, none⟩ ∧ b < w.heap.size ∧ ∀ j, j < v.c.length → ∃ u, w.cell? ⟨b, off + j, none⟩ = some u ∧ IsD w u (intsD (vAt v.c j))) := hc
 clear h hm hk hc
 obtain ⟨W0, hW0⟩ : ∃ W0, w.alloc (.cells #[.int .i64 v.m.n, .int .i64 v.m.s, .slice ai v.m.i.length ci, .slice ah v.m.h.length ch, .slice ae v.m.e.length ce, .int .i64 v.m.z, .slice ak v.k.length ck, .slice ac v.c.length cc] 60) = W0 := ⟨_, rfl⟩
 have HB0 : Hid (Below w.heap.size w W0) := by rw [← hW0]; exact (Below.refl _ w).alloc (Nat.le_refl _) _
 have HP0 : Hid (Bk W0 w.heap.size 60 #[.int .i64 v.m.n, .int .i64 v.m.s, .slice ai v.m.i.length ci, .slice ah v.m.h.length ch, .slice ae v.m.e.length ce, .int .i64 v.m.z, .slice ak v.k.length ck, .slice ac v.c.length cc]) := by rw [← hW0]; exact Bk.new w _ _
 obtain ⟨W1, hW1⟩ : ∃ W1, W0.alloc (.cells #[.slice za d.length zc] 22) = W1 := ⟨_, rfl⟩
 have hs0 : W0.heap.size = w.heap.size + 1 := by rw [← hW0]; simp
 have hb01 : Below W0.heap.size W0 W1 := hW1 ▸ (Below.refl _ W0).alloc (Nat.le_refl _) _
 have HBa : Hid (Below w.heap.size w W1) := HB0.out.trans (hb01.mono (by omega))
 have HPa : Hid (Bk W1 w.heap.size 60 #[.int .i64 v.m.n, .int .i64 v.m.s, .slice ai v.m.i.length ci, .slice ah v.m.h.length ch, .slice ae v.m.e.length ce, .int .i64 v.m.z, .slice ak v.k.length ck, .slice ac v.c.length cc]) := HP0.out.below hb01
 have HDa : Hid (Bk W1 (w.heap.size + 1) 22 #[.slice za d.length zc]) := by rw [← hs0]; exact hW1 ▸ Bk.new W0 _ _
 rw [← hW0] at hW1
 clear hb01 hW0 HB0 HP0
 have q0 := HPa.out.cell (i := 0) rfl
 have q1 := HPa.out.cell (i := 1) rfl
 have q2 := HPa.out.cell (i := 2) rfl
 have q3 := HPa.out.cell (i := 3) rfl
 have q4 := HPa.out.cell (i := 4) rfl
 have q5 := HPa.out.cell (i := 5) rfl
 have q6 := HPa.out.cell (i := 6) rfl
 have q7 := HPa.out.cell (i := 7) rfl
 go_enter Tryz.func38, Tryz.ntmps38
 go_wp2_with fail
 clear q0 q1 q2 q3 q4 q5 q6 q7 hW1
 refine (iWorldOk _ v _ HSW.out (HWW.out.under HBa.out)).mono ?_
 rintro e w1 ⟨rfl, hb1⟩
 have HB1 : Hid (Below w.heap.size w w1) := HBa.out.trans (hb1.mono HBa.out.size)
 have HP1 : Hid (Bk w1 w.heap.size 60 #[.int .i64 v.m.n, .int .i64 v.m.s, .slice ai v.m.i.length ci, .slice ah v.m.h.length ch, .slice ae v.m.e.length ce, .int .i64 v.m.z, .slice ak v.k.length ck, .slice ac v.c.length cc]) := HPa.out.below hb1
 have HD1 : Hid (Bk w1 (w.heap.size + 1) 22 #[.slice za d.length zc]) := HDa.out.below hb1
 clear hb1 HBa HPa HDa
 cases hok : v.ok
 case false =>
  have HN : Hid (covA v d = -1) := covA_no (.inl hok)
  clear hok
  go_wp2
  go_ret
  exact ⟨ret_int HN.out.symm, HB1.out⟩
 have HOK : Hid (v.ok = true) := hok
 clear hok
 have q6 := HP1.out.cell (i := 6) rfl
 go_wp2_with fail
 clear q6
 refine (idxK_any ak ck v (w.heap.size + 1) (.slice za d.length zc) d w1 HSK.out hdl (HZ.out.below HB1.out) HD1.out.lt (HD1.out.cell (i := 0) rfl) (HKS.out.imp id (fun ⟨b, off, e1, hbl, hk⟩ => ⟨b, off, e1, Nat.lt_of_lt_of_le hbl HB1.out.size, fun i hi => (hk i hi).under hbl HB1.out⟩))).mono ?_
 rintro e w2 ⟨hR, hb2⟩
 have HB2 : Hid (Below w.heap.size w w2) := HB1.out.trans (hb2.mono HB1.out.size)
 have hE := idxK_cov HOK.out hR
 subst hE
 clear hb2 hR
 go_wp2
 go_ret
 exact ⟨rfl, HB2.out⟩
end Go.Proofs.YtnlhcdchmgfipaaGreat
