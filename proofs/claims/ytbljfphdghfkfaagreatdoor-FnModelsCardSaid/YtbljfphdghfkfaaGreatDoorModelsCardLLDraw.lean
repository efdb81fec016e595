/- A drawn model may be. -/
import Derived.Test.YtbljfphdghfkfaaGreatDoorModelsCardLLOp
import Derived.Test.YtbljfphdghfkfaaGreatDoorModelsCardG07
import Derived.Deep.RegionLaw
namespace Go.Proofs.YtbljfphdghfkfaaGreatDoor
open Go.RowKit
def InI (l : List Int) (k : Nat) : Prop := l.length = k ∧ ∀ j, j < l.length → 0 ≤ intAt l j ∧ intAt l j ≤ 4
def InR (n kk : Int) (r : List O) : Prop := r.length ≤ 4 ∧ ∀ j, j < r.length → (oAt r j).ok n kk = true
def InH (n kk : Int) (h : List (List O)) (k : Nat) : Prop := h.length = k ∧ ∀ j, j < h.length → InR n kk (hAt h j)
def InE (n kk : Int) (l : List Ev) (k : Nat) : Prop := l.length = k ∧ ∀ j, j < l.length → (evAt l j).s = -1 ∧ (evAt l j).q = (j : Int) ∧ (evAt l j).g = (j : Int) ∧ 0 ≤ (evAt l j).t ∧ (evAt l j).t ≤ 4 ∧ 0 ≤ (evAt l j).d ∧ (evAt l j).d < n ∧ 0 ≤ (evAt l j).k ∧ (evAt l j).k < kk ∧ 0 ≤ (evAt l j).v ∧ (evAt l j).v ≤ 8
theorem intAt_snoc (l : List Int) (z : Int) (j : Nat) : intAt (l ++ [z]) j = if j < l.length then intAt l j else if j = l.length then z else 0 := by
 unfold intAt
 split
 ·rename_i h; simp [List.getElem?_append_left h]
 ·split
  ·rename_i h; subst h; simp
  ·rename_i h1 h2
   rw [List.getD_eq_getElem?_getD, List.getElem?_eq_none (by simp; omega)]; rfl
theorem InI.snoc {l : List Int} {k : Nat} {z : Int} (h : InI l k) (h0 : 0 ≤ z) (h1 : z ≤ 4) : InI (l ++ [z]) (k + 1) := by
 refine ⟨by simp [h.1], fun j hj => ?_⟩
 rw [intAt_snoc]
 split
 ·exact h.2 j (by assumption)
 ·split
  ·exact ⟨h0, h1⟩
  ·omega
theorem oAt_snoc (l : List O) (z : O) (j : Nat) (hj : j < (l ++ [z]).length) : oAt (l ++ [z]) j = if j < l.length then oAt l j else z := by
 unfold oAt
 split
 ·rename_i h; simp [List.getElem?_append_left h]
 ·rename_i h
  obtain rfl : j = l.length := by simp at hj; omega
  simp
theorem InR.snoc {n kk : Int} {l : List O} {z : O} (h : InR n kk l) (hl : l.length < 4) (h0 : z.ok n kk = true) : InR n kk (l ++ [z]) := by
 refine ⟨by simp; omega, fun j hj => ?_⟩
 rw [oAt_snoc _ _ _ hj]
 split
 ·exact h.2 j (by assumption)
 ·exact h0
theorem hAt_snoc (l : List (List O)) (z : List O) (j : Nat) (hj : j < (l ++ [z]).length) : hAt (l ++ [z]) j = if j < l.length then hAt l j else z := by
 unfold hAt
 split
 ·rename_i h; simp [List.getElem?_append_left h]
 ·rename_i h
  obtain rfl : j = l.length := by simp at hj; omega
  simp
theorem InH.snoc {n kk : Int} {l : List (List O)} {z : List O} {k : Nat} (h : InH n kk l k) (h0 : InR n kk z) : InH n kk (l ++ [z]) (k + 1) := by
 refine ⟨by simp [h.1], fun j hj => ?_⟩
 rw [hAt_snoc _ _ _ hj]
 split
 ·exact h.2 j (by assumption)
 ·exact h0
theorem evAt_snoc2 (l : List Ev) (z : Ev) (j : Nat) (hj : j < (l ++ [z]).length) : evAt (l ++ [z]) j = if j < l.length then evAt l j else z := by
 unfold evAt
 split
 ·rename_i h; simp [List.getElem?_append_left h]
 ·rename_i h
  obtain rfl : j = l.length := by simp at hj; omega
  simp
theorem InE.snoc {n kk : Int} {l : List Ev} {k : Nat} {t d q v : Int} (h : InE n kk l k) (h0 : 0 ≤ t ∧ t < 5) (h1 : 0 ≤ d ∧ d < n) (h2 : 0 ≤ q ∧ q < kk) (h3 : 0 ≤ v ∧ v < 9) : InE n kk (l ++ [⟨t, -1, (k : Int), d, q, v, (k : Int)⟩]) (k + 1) := by
 refine ⟨by simp [h.1], fun j hj => ?_⟩
 rw [evAt_snoc2 _ _ _ hj]
 split
 ·exact h.2 j (by assumption)
 ·have hk := h.1
  obtain rfl : j = k := by simp at hj; omega
  dsimp only
  exact ⟨rfl, rfl, rfl, h0.1, by omega, h1.1, h1.2, h2.1, h2.2, h3.1, by omega⟩
theorem drawn_ok {n kk s z : Int} {i : List Int} {h : List (List O)} {e : List Ev} {kI kH kE : Nat} (hn : 1 ≤ n ∧ n ≤ 3) (hs : 0 ≤ s ∧ s ≤ 8) (hz : 5 ≤ z ∧ z ≤ 14) (hkk : 1 ≤ kk ∧ kk ≤ 3) (hI : InI i kI) (hH : InH n kk h kH) (hE : InE n kk e kE) (e1 : (kI : Int) = n) (e2 : (kH : Int) = kk) (e3 : kE ≤ 3) :
  (⟨n, s, i, h, e, z⟩ : Md).ok = true := by
 have l1 := hI.1
 have l2 := hH.1
 have l3 := hE.1
 refine ok_yes ?_ ?_ ?_ ?_
 ·show 1 ≤ n ∧ n ≤ 4 ∧ 0 ≤ s ∧ s ≤ 65535 ∧ (i.length : Int) = n ∧ 1 ≤ h.length ∧ h.length ≤ 4 ∧ e.length ≤ 6 ∧ 0 ≤ z ∧ z ≤ 950
  omega
 ·refine range_yes fun k hk => ?_
  have := hI.2 k hk
  simp only [inB, decide_eq_true_eq]
  show 0 ≤ intAt i k ∧ intAt i k ≤ 999
  omega
 ·refine range_yes fun k hk => ?_
  have := hH.2 k hk
  simp only [rowB, Bool.and_eq_true, decide_eq_true_eq]
  refine ⟨by show (hAt h k).length ≤ 8; have := this.1; omega, range_yes fun q hq => ?_⟩
  have := this.2 q hq
  show (oAt (hAt h k) q).ok n h.length = true
  rw [show ((h.length : Nat) : Int) = kk by omega]
  exact this
 ·refine range_yes fun k hk => ?_
  have := hE.2 k hk
  obtain ⟨a1, a2, a3, a4, a5, a6, a7, a8, a9, b1, b2⟩ := this
  simp only [stB, Bool.and_eq_true, decide_eq_true_eq]
  have hk' : k < e.length := hk
  refine ⟨?_, ?_⟩
  ·show (evAt e k).ok = true
   simp only [Ev.ok, okB, decide_eq_true_eq]
   omega
  ·show (evAt e k).s = -1 ∧ (evAt e k).q = (k : Int) ∧ (evAt e k).g = (k : Int) ∧ (evAt e k).d < n ∧ (evAt e k).k < (h.length : Int) ∧ (evAt e k).t ≤ z
   omega
set_option maxRecDepth 100000 in
set_option maxHeartbeats 32000000 in
theorem l2draw_any (c : Nat) (w : World) (H : Cur w c) :
  Calls Tryz.prog 45 #[.pointer (some ⟨c, 0, none⟩)] w fun e w' => ∃ (m : Md) (vi vh vs : Value) (us : List Value), e = .returned (.agg #[.int .i64 m.n, .int .i64 m.s, vi, vh, vs, .int .i64 m.z]) ∧ m.ok = true ∧ MO w' w.heap.size m vi vh vs us ∧ 1 ≤ m.e.length ∧ Cur w' c ∧ Turns (fun k => k = c) w w' := by
 have hcw : c < w.heap.size := H.lt
 obtain ⟨i3, hi3, hiz0, hiz1, hiz2⟩ := info_parts info3
 obtain ⟨i6, hi6, hjz0, hjz1, hjz2⟩ := info_parts infoSS
 obtain ⟨i7, hi7, hez0, hez1, hez2⟩ := info_parts infoEv
 obtain ⟨i8, hi8, hoz0, hoz1, hoz2⟩ := info_parts infoOp
 obtain ⟨W0, hW0⟩ : ∃ W0, w.alloc (.cells #[.int .i64 0, .int .i64 0, .slice none 0 0, .slice none 0 0, .slice none 0 0, .int .i64 0] 27) = W0 := ⟨_, rfl⟩
 have HR0 : Hid (Bk W0 w.heap.size 27 #[.int .i64 0, .int .i64 0, .slice none 0 0, .slice none 0 0, .slice none 0 0, .int .i64 0]) := hW0 ▸ Bk.new w _ _
 have HC0 : Hid (Cur W0 c) := hW0 ▸ H.alloc _
 have HT0 : Hid (Turns (fun k => k = c) w W0) := hW0 ▸ (Turns.refl _ w).alloc _
 have HW0 : Hid (w.alloc (.cells #[.int .i64 0, .int .i64 0, .slice none 0 0, .slice none 0 0, .slice none 0 0, .int .i64 0] 27) = W0) := hW0
 clear hW0 H
 go_enter Tryz.func45, Tryz.ntmps45
 go_wp2_with fail
 rw [HW0.out]
 clear HW0
 refine (below_any c _ _ HC0.out).mono ?_
 rintro e w1 ⟨x, rfl, x0, x1, hC, hT⟩
 have x2 := x1 (by omega)
 have HR1 : Hid (Bk w1 w.heap.size 27 #[.int .i64 0, .int .i64 0, .slice none 0 0, .slice none 0 0, .slice none 0 0, .int .i64 0]) := HR0.out.turns hT (by omega)
 have HC1 : Hid (Cur w1 c) := hC
 have HT1 : Hid (Turns (fun k => k = c) w w1) := HT0.out.trans hT
 clear x1 hC hT HR0 HC0 HT0
 go_wp2_with fail
 refine (below_any c _ _ HC1.out).mono ?_
 rintro e w2 ⟨y, rfl, y0, y1, hC, hT⟩
 have y2 := y1 (by omega)
 have HR2 : Hid (Bk w2 w.heap.size 27 #[.int .i64 0, .int .i64 0, .slice none 0 0, .slice none 0 0, .slice none 0 0, .int .i64 0]) := HR1.out.turns hT (by omega)
 have HC2 : Hid (Cur w2 c) := hC
 have HT2 : Hid (Turns (fun k => k = c) w w2) := HT1.out.trans hT
 clear y1 hC hT HR1 HC1 HT1
 have hs2 : w.heap.size ≤ w2.heap.size := HT2.out.size
 have HRa : Hid (Bk (w2.alloc (.cells #[.int .i64 5, .int .i64 9, .int .i64 14] 3)) w.heap.size 27 #[.int .i64 0, .int .i64 0, .slice none 0 0, .slice none 0 0, .slice none 0 0, .int .i64 0]) := HR2.out.alloc _
 have HCa : Hid (Cur (w2.alloc (.cells #[.int .i64 5, .int .i64 9, .int .i64 14] 3)) c) := HC2.out.alloc _
 have HTa : Hid (Turns (fun k => k = c) w (w2.alloc (.cells #[.int .i64 5, .int .i64 9, .int .i64 14] 3))) := HT2.out.alloc _
 have HLa : Hid (ListAt (w2.alloc (.cells #[.int .i64 5, .int .i64 9, .int .i64 14] 3)) w2.heap.size 3 (fun y => 5 ≤ y ∧ y ≤ 14)) := lstOf w2 3 [5, 9, 14] _ (by decide)
 clear HR2 HC2 HT2
 go_wp2_with fail
 refine (pick_any c w2.heap.size 3 _ _ (by omega) (by omega) (by omega) HCa.out HLa.out).mono ?_
 rintro e w3 ⟨zz, rfl, hzz, hC, hT⟩
 have hs3 : w.heap.size < w3.heap.size := by have h1 := hT.size; have h2 := (Bk.new w2 3 #[.int .i64 5, .int .i64 9, .int .i64 14]).lt; omega
 obtain ⟨kL, hkL⟩ : ∃ k : Nat, 1 + x = (k : Int) := ⟨(1 + x).toNat, by omega⟩
 have hkl1 : 1 ≤ kL ∧ kL ≤ 3 := by omega
 have HKL : Hid (1 + x = (kL : Int)) := hkL
 clear hkL
 obtain ⟨Mb, hMb⟩ : ∃ Mb, Mb = w3.heap.size := ⟨_, rfl⟩
 have HM0 : Hid (MB (w3.alloc (.cells #[.int .i64 (1 + x), .int .i64 y, .slice none 0 0, .slice none 0 0, .slice none 0 0, .int .i64 zz] 27)) w.heap.size w.heap.size Mb ⟨1 + x, y, [], [], [], zz⟩ (.slice none 0 0) (.slice none 0 0) (.slice none 0 0) []) := ⟨by omega, (HRa.out.turns hT (by omega)).alloc _, hMb ▸ Bk.new w3 _ _, World.ownsRow_nil _ _ 3 1, World.ownsRow_nil _ _ _ 1, HsO.nil _ _, World.ownsRow_nil _ _ _ 7⟩
 have HC3 : Hid (Cur (w3.alloc (.cells #[.int .i64 (1 + x), .int .i64 y, .slice none 0 0, .slice none 0 0, .slice none 0 0, .int .i64 zz] 27)) c) := hC.alloc _
 have HT3 : Hid (Turns (fun k => k = c) w (w3.alloc (.cells #[.int .i64 (1 + x), .int .i64 y, .slice none 0 0, .slice none 0 0, .slice none 0 0, .int .i64 zz] 27))) := (HTa.out.trans hT).alloc _
 have HMb : Hid (Mb = w3.heap.size) := hMb
 have hMw : w.heap.size ≤ Mb := by omega
 have hMc : c < Mb := by omega
 clear hC hT HRa HCa HTa HLa hMb hs2 hs3
 go_wp2
 rw [← HMb.out]
 clear HMb
 generalize w3.alloc (.cells #[.int .i64 (1 + x), .int .i64 y, .slice none 0 0, .slice none 0 0, .slice none 0 0, .int .i64 zz] 27) = W4 at HM0 HC3 HT3 ⊢
 rw [HKL.out] at HM0
 clear x0 x2
 go_loopw [4] (fun i wr => ∃ (k : Nat) (vi : Value) (li : List Int), k ≤ kL ∧ i = .int .i64 k ∧ Hid (InI li k) ∧ MB wr w.heap.size w.heap.size Mb ⟨(kL : Int), y, li, [], [], zz⟩ vi (.slice none 0 0) (.slice none 0 0) [] ∧ Cur wr c ∧ Turns (fun k => k = c) w wr) (fun i _ => kL - (intOf i).toNat)
 case atStart => exact ⟨0, _, [], Nat.zero_le _, rfl, ⟨rfl, fun j hj => absurd hj (by simp)⟩, HM0.out, HC3.out, HT3.out⟩
 case round =>
  clear HM0 HC3 HT3
  obtain ⟨k, vi, li, hk, rfl, HI, hM, hC, hT⟩ := hrel
  have HM : Hid (MB wr w.heap.size w.heap.size Mb ⟨(kL : Int), y, li, [], [], zz⟩ vi (.slice none 0 0) (.slice none 0 0) []) := hM
  have HC : Hid (Cur wr c) := hC
  have HT : Hid (Turns (fun k => k = c) w wr) := hT
  have hsz : w.heap.size ≤ wr.heap.size := hT.size
  have m0 : wr.cell? ⟨Mb, 0, none⟩ = some (.int .i64 (kL : Int)) := hM.b.cell rfl
  clear hM hC hT
  by_cases hlt : k < kL
  ·have hki : (k : Int) < (kL : Int) := by omega
   obtain ⟨avi, cvi, hvi⟩ := owns_slice HM.out.i
   have hvk : vi = .slice avi k cvi := by rw [hvi]; exact congrArg (fun q => Value.slice avi q cvi) HI.out.1
   subst hvk
   clear hvi
   have k0 : wr.cell? ⟨Mb, 2, none⟩ = some (.slice avi k cvi) := HM.out.b.cell rfl
   have HG2 : Hid (Calls Tryz.prog 47 #[.pointer (some ⟨c, 0, none⟩), .int .i64 5] wr.drew fun e w' => ∃ x : Int, e = .returned (.int .i64 x) ∧ 0 ≤ x ∧ (0 < (5 : Int) → x < 5) ∧ Cur w' c ∧ Turns (fun k => k = c) wr.drew w') := below_any c 5 wr.drew HC.out.drew
   have HTD : Hid (Turns (fun k => k = c) w wr.drew) := ⟨HT.out.os, HT.out.tape, HT.out.output, HT.out.size, HT.out.block⟩
   go_wp2_with fail
   go_region_law (first | (have hq := HM2; refine step_append_own (w := w2.alloc (.cells #[.int .i64 zv] 3)) rfl (.tmp 28) (.tmp 31) 23 rfl w.heap.size 3 i3 (.int .i64 0) 1 8 Tryz.underlying23 hi3 hiz0 hiz1 hiz2 rfl (by decide) (.slice avi k cvi) k (intCells li) rfl HMI.out ⟨w2.heap.size, 0, none⟩ 1 1 (intCells [zv]) rfl rfl (at_newI w2 zv) (intCells_ones _) (by unfold maxLen; omega) (by omega) (Nat.le_trans hs2 (sza w2 _)) ?_; intro v3 w3 hown3 hgrow3; have k3 : w3.cell? ⟨Mb, 2, none⟩ = some (.slice avi k cvi) := ((MB.alloc HM2.out _).b.turns (grown_turns hgrow3) (owns_ne HM2.out.i HM2.out.b (by decide))).cell rfl; have f3 := ((MB.alloc HM2.out _).b.turns (grown_turns hgrow3) (owns_ne HM2.out.i HM2.out.b (by decide))).free 2; obtain ⟨av3, cv3, hv3⟩ := owns_slice hown3; subst hv3) | (go_simp; go_at_call 47; refine HG2.out.mono ?_; rintro e w2 ⟨zv, rfl, hz0, hz1, hC2, ht2⟩; (try dsimp only); have hz2 := hz1 (by omega); have HM2 : Hid (MB w2 w.heap.size w.heap.size Mb ⟨(kL : Int), y, li, [], [], zz⟩ (.slice avi k cvi) (.slice none 0 0) (.slice none 0 0) []) := (HM.out.drew).keptC hcw (Nat.le_refl _) hMw ht2; have HMI : Hid ((w2.alloc (.cells #[.int .i64 zv] 3)).ownsRow w.heap.size 3 1 (.slice avi k cvi) k (intCells li)) := HI.out.1 ▸ (MB.alloc HM2.out _).i; have HC2 : Hid (Cur w2 c) := hC2; have HT2 : Hid (Turns (fun k => k = c) w w2) := HTD.out.trans ht2; have hs2 : w.heap.size ≤ w2.heap.size := HT2.out.size; have k2 : w2.cell? ⟨Mb, 2, none⟩ = some (.slice avi k cvi) := HM2.out.b.cell rfl; have k2a : (w2.alloc (.cells #[.int .i64 zv] 3)).cell? ⟨Mb, 2, none⟩ = some (.slice avi k cvi) := (MB.alloc HM2.out _).b.cell rfl; clear ht2 hC2 hz1))
   all_goals
    have HM3 : Hid (MB (w3.setCell ⟨Mb, 2, none⟩ (.slice av3 (k + 1) cv3)) w.heap.size w.heap.size Mb ⟨(kL : Int), y, (li ++ [zv]), [], [], zz⟩ (.slice av3 (k + 1) cv3) (.slice none 0 0) (.slice none 0 0) []) := (MB.alloc HM2.out _).putI (by rw [show (⟨(kL : Int), y, li, [], [], zz⟩ : Md).i.length = k from HI.out.1]; exact hown3) hgrow3
    have HC3 : Hid (Cur (w3.setCell ⟨Mb, 2, none⟩ (.slice av3 (k + 1) cv3)) c) := ((HC2.out.alloc _).grown hgrow3 (fun j e => by have := row_ge HM2.out.i e; omega)).put hMc _ _
    have HT3 : Hid (Turns (fun k => k = c) w (w3.setCell ⟨Mb, 2, none⟩ (.slice av3 (k + 1) cv3))) := ((HT2.out.alloc _).grownNew hgrow3 (fun j e => row_ge HM2.out.i e)).setNew (by omega) _ _
    clear hown3 hgrow3 k2 k2a k3 f3 k0 m0 HMI
    generalize w3.setCell ⟨Mb, 2, none⟩ (.slice av3 (k + 1) cv3) = V3 at HM3 HC3 HT3 ⊢
    go_wp2
    go_roundw
    case rel => exact ⟨k + 1, _, _, by omega, by go_num, HI.out.snoc hz0 (by omega), HM3.out, HC3.out, HT3.out⟩
    case measure => simp [intOf]; omega
  ·obtain rfl : kL = k := by omega
   clear hlt hk
   go_wp2_with fail
   clear m0
   refine (below_any c _ _ HC.out).mono ?_
   rintro e w5 ⟨x5, rfl, h50, h51, hC, hT⟩
   have h52 := h51 (by omega)
   obtain ⟨kK, hkK⟩ : ∃ k : Nat, 1 + x5 = (k : Int) := ⟨(1 + x5).toNat, by omega⟩
   have hkk1 : 1 ≤ kK ∧ kK ≤ 3 := by omega
   have HM0 : Hid (MB w5 w.heap.size w.heap.size Mb ⟨(kL : Int), y, li, [], [], zz⟩ vi (.slice none 0 0) (.slice none 0 0) []) := HM.out.keptC hcw (Nat.le_refl _) hMw hT
   have HC5 : Hid (Cur w5 c) := hC
   have HT5 : Hid (Turns (fun k => k = c) w w5) := HT.out.trans hT
   clear h51 hC hT HM HC HT hsz
   go_wp2
   try rw [hkK]
   clear hkK h50 h52
   go_loopw [6, 7, 8, 9] (fun i u7 u8 u9 wr => ∃ (k : Nat) (vh : Value) (us : List Value) (lh : List (List O)), k ≤ kK ∧ i = .int .i64 k ∧ Hid (InH (kL : Int) (kK : Int) lh k) ∧ MB wr w.heap.size w.heap.size Mb ⟨(kL : Int), y, li, lh, [], zz⟩ vi vh (.slice none 0 0) us ∧ Cur wr c ∧ Turns (fun k => k = c) w wr) (fun i _ _ _ _ => kK - (intOf i).toNat)
   case atStart => exact ⟨0, _, _, [], Nat.zero_le _, rfl, ⟨rfl, fun j hj => absurd hj (by simp)⟩, HM0.out, HC5.out, HT5.out⟩
   case round =>
    clear HM0 HC5 HT5
    obtain ⟨k, vh, us, lh, hk, rfl, HH, hM, hC, hT⟩ := hrel
    obtain ⟨W5, rfl⟩ : ∃ W5, W5 = wr := ⟨wr, rfl⟩
    have HM : Hid (MB W5 w.heap.size w.heap.size Mb ⟨(kL : Int), y, li, lh, [], zz⟩ vi vh (.slice none 0 0) us) := hM
    have HC : Hid (Cur W5 c) := hC
    have HT : Hid (Turns (fun k => k = c) w W5) := hT
    have hsz : w.heap.size ≤ W5.heap.size := hT.size
    clear hM hC hT
    by_cases hlt : k < kK
    ·have hki : (k : Int) < (kK : Int) := by omega
     go_wp2_with fail
     refine (below_any c _ _ HC.out).mono ?_
     rintro e w6 ⟨x6, rfl, h60, h61, hC, hT⟩
     have h62 := h61 (by omega)
     obtain ⟨kR, hkR⟩ : ∃ k : Nat, x6 = (k : Int) := ⟨x6.toNat, by omega⟩
     subst hkR
     have hkr1 : kR ≤ 4 := by omega
     have HAW : Hid (Aw W5.heap.size w.heap.size Mb vi vh (.slice none 0 0) us lh.length) := HM.out.aw
     have HM6 : Hid (MB w6 w.heap.size w.heap.size Mb ⟨(kL : Int), y, li, lh, [], zz⟩ vi vh (.slice none 0 0) us) := HM.out.keptC hcw (Nat.le_refl _) hMw hT
     have HC6 : Hid (Cur w6 c) := hC
     have HT6 : Hid (Turns (fun k => k = c) w w6) := HT.out.trans hT
     have HZ6 : Hid (W5.heap.size ≤ w6.heap.size) := hT.size
     clear h61 h60 h62 hC hT HM HC HT
     go_wp2
     go_loopw [7, 9] (fun o7 i9 wr => ∃ (q : Nat) (v : Value) (lr : List O), q ≤ kR ∧ v = o7 ∧ i9 = .int .i64 q ∧ Hid (lr.length = q ∧ InR (kL : Int) (kK : Int) lr) ∧ wr.ownsRow W5.heap.size 39 4 o7 q (cellsO lr) ∧ MB wr w.heap.size w.heap.size Mb ⟨(kL : Int), y, li, lh, [], zz⟩ vi vh (.slice none 0 0) us ∧ Cur wr c ∧ Turns (fun k => k = c) w wr ∧ W5.heap.size ≤ wr.heap.size) (fun _ i _ => kR - (intOf i).toNat)
     case atStart => exact ⟨0, _, [], Nat.zero_le _, rfl, rfl, ⟨rfl, Nat.zero_le _, fun j hj => absurd hj (by simp)⟩, World.ownsRow_nil _ _ _ 4, HM6.out, HC6.out, HT6.out, HZ6.out⟩
     case round =>
      clear HM6 HC6 HT6 HZ6
      obtain ⟨q, v, lr, hq, rfl, rfl, HQ, hO, hM, hC, hT, hZ⟩ := hrel
      have HO : Hid (wr.ownsRow W5.heap.size 39 4 v q (cellsO lr)) := hO
      have HM : Hid (MB wr w.heap.size w.heap.size Mb ⟨(kL : Int), y, li, lh, [], zz⟩ vi vh (.slice none 0 0) us) := hM
      have HC : Hid (Cur wr c) := hC
      have HT : Hid (Turns (fun k => k = c) w wr) := hT
      have m0 : wr.cell? ⟨Mb, 0, none⟩ = some (.int .i64 (kL : Int)) := hM.b.cell rfl
      clear hO hM hC hT
      by_cases hqlt : q < kR
      ·have hqi : (q : Int) < (kR : Int) := by omega
       go_wp2_with fail
       refine (op_any c (kL : Int) (kK : Int) _ (by omega) (by omega) HC.out).mono ?_
       rintro e w7 ⟨o, rfl, hok, hC7, hT7⟩
       have HOK : Hid (o.ok (kL : Int) (kK : Int) = true) := hok
       have HC7 : Hid (Cur w7 c) := hC7
       have HM7 : Hid (MB w7 w.heap.size w.heap.size Mb ⟨(kL : Int), y, li, lh, [], zz⟩ vi vh (.slice none 0 0) us) := HM.out.keptC hcw (Nat.le_refl _) hMw hT7
       have HO7 : Hid (w7.ownsRow W5.heap.size 39 4 v q (cellsO lr)) := owns_turns HO.out hT7 (fun j e e' => by have := row_ge HO.out e; omega)
       have HT7 : Hid (Turns (fun k => k = c) w w7) := HT.out.trans hT7
       have hZ7 : W5.heap.size ≤ w7.heap.size := Nat.le_trans hZ hT7.size
       clear hok hC7 hT7 HC HM HO HT m0
       obtain ⟨oc, oa, ob, ok⟩ := o
       go_wp2_with (at_builtin; refine wpList_append_own _ rfl _ _ 37 rfl W5.heap.size 39 i8 (.agg #[.int .i64 0, .int .i64 0, .int .i64 0, .int .i64 0]) 4 32 Tryz.underlying37 hi8 hoz0 hoz1 hoz2 rfl (by decide) v q (cellsO lr) rfl (HO7.out.alloc _) ⟨w7.heap.size, 0, none⟩ 1 1 (cellsO [⟨oc, oa, ob, ok⟩]) rfl rfl (at_newO w7 ⟨oc, oa, ob, ok⟩) (fun u hu => by (simp [cellsO, O.cs] at hu; rcases hu with rfl | rfl | rfl | rfl <;> rfl)) (by unfold maxLen; omega) (by omega) (by simp; omega) ?_; intro v8 w8 hown hgrow hnil)
       have hg8 : ∀ j, v.ownBlock = some j → W5.heap.size ≤ j := fun j e => row_ge HO7.out e
       have hZ8 : W5.heap.size ≤ w8.heap.size := Nat.le_trans (Nat.le_trans hZ7 (sza w7 _)) hgrow.size
       go_roundw
       case rel =>
        refine ⟨q + 1, _, lr ++ [⟨oc, oa, ob, ok⟩], by omega, rfl, by go_num, ⟨by simp [HQ.out.1], HQ.out.2.snoc (by rw [HQ.out.1]; omega) HOK.out⟩, ?_, (MB.alloc HM7.out _).grownA HAW.out hgrow hg8, (HC7.out.alloc _).grown hgrow (fun j e => by have := hg8 j e; omega), (HT7.out.alloc _).grownNew hgrow (fun j e => by have := hg8 j e; omega), hZ8⟩
        rw [cellsO_append]
        exact hown
       case measure => simp [intOf]; omega
      ·obtain rfl : kR = q := by omega
       obtain ⟨avh, cvh, hvh⟩ := owns_slice HM.out.h
       have hvk : vh = .slice avh k cvh := by rw [hvh]; exact congrArg (fun q => Value.slice avh q cvh) HH.out.1
       subst hvk
       obtain ⟨av, cv, hv⟩ := owns_slice HO.out
       subst hv
       have k0 : wr.cell? ⟨Mb, 3, none⟩ = some (.slice avh k cvh) := HM.out.b.cell rfl
       have k0a : (wr.alloc (.cells #[.slice av kR cv] 37)).cell? ⟨Mb, 3, none⟩ = some (.slice avh k cvh) := (MB.alloc HM.out _).b.cell rfl
       have HMH : Hid ((wr.alloc (.cells #[.slice av kR cv] 37)).ownsRow w.heap.size 37 1 (.slice avh k cvh) k us) := HH.out.1 ▸ (MB.alloc HM.out _).h
       clear hvh m0 hqlt hq
       go_wp2_with (at_builtin; refine wpList_append_own _ rfl _ _ 24 rfl w.heap.size 37 i6 (.slice none 0 0) 1 24 Tryz.underlying24 hi6 hjz0 hjz1 hjz2 rfl (by decide) (.slice avh k cvh) k us rfl HMH.out ⟨wr.heap.size, 0, none⟩ 1 1 [.slice av kR cv] rfl rfl (at_newS wr _ _) (slice_ones _ _ _) (by unfold maxLen; omega) (by omega) (by simp; omega) ?_; intro v3 w3 hown3 hgrow3 hnil3; have k3 : w3.cell? ⟨Mb, 3, none⟩ = some (.slice avh k cvh) := ((MB.alloc HM.out _).b.turns (grown_turns hgrow3) (owns_ne HM.out.h HM.out.b (by decide))).cell rfl; have f3 := ((MB.alloc HM.out _).b.turns (grown_turns hgrow3) (owns_ne HM.out.h HM.out.b (by decide))).free 3; obtain ⟨av3, cv3, hv3⟩ := owns_slice hown3; subst hv3)
       have HM3 : Hid (MB (w3.setCell ⟨Mb, 3, none⟩ (.slice av3 (k + 1) cv3)) w.heap.size w.heap.size Mb ⟨(kL : Int), y, li, (lh ++ [lr]), [], zz⟩ vi (.slice av3 (k + 1) cv3) (.slice none 0 0) (us ++ [.slice av kR cv])) := (MB.alloc HM.out _).putH (B' := W5.heap.size) (by rw [HQ.out.1]; exact World.ownsRow.alloc HO.out _) hsz HAW.out.2.2.2.2.1 (by rw [show (⟨(kL : Int), y, li, lh, [], zz⟩ : Md).h.length = k from HH.out.1]; exact hown3) hgrow3
       have HC3 : Hid (Cur (w3.setCell ⟨Mb, 3, none⟩ (.slice av3 (k + 1) cv3)) c) := ((HC.out.alloc _).grown hgrow3 (fun j e => by have := row_ge HM.out.h e; omega)).put hMc _ _
       have HT3 : Hid (Turns (fun k => k = c) w (w3.setCell ⟨Mb, 3, none⟩ (.slice av3 (k + 1) cv3))) := ((HT.out.alloc _).grownNew hgrow3 (fun j e => row_ge HM.out.h e)).setNew (by omega) _ _
       clear hown3 hgrow3 k3 f3 k0 k0a HMH hnil3
       generalize w3.setCell ⟨Mb, 3, none⟩ (.slice av3 (k + 1) cv3) = V3 at HM3 HC3 HT3 ⊢
       go_roundw
       case rel => exact ⟨k + 1, _, _, _, by omega, by go_num, HH.out.snoc HQ.out.2, HM3.out, HC3.out, HT3.out⟩
       case measure => simp [intOf]; omega
    ·obtain rfl : kK = k := by omega
     clear hlt hk
     go_wp2_with fail
     refine (below_any c _ _ HC.out).mono ?_
     rintro e w5 ⟨x5, rfl, h50, h51, hC, hT⟩
     have h52 := h51 (by omega)
     obtain ⟨kS, hkS⟩ : ∃ k : Nat, 1 + x5 = (k : Int) := ⟨(1 + x5).toNat, by omega⟩
     have hks1 : 1 ≤ kS ∧ kS ≤ 3 := by omega
     have HM0 : Hid (MB w5 w.heap.size w.heap.size Mb ⟨(kL : Int), y, li, lh, [], zz⟩ vi vh (.slice none 0 0) us) := HM.out.keptC hcw (Nat.le_refl _) hMw hT
     have HC5 : Hid (Cur w5 c) := hC
     have HT5 : Hid (Turns (fun k => k = c) w w5) := HT.out.trans hT
     clear h51 hC hT HM HC HT hsz
     go_wp2
     try rw [hkS]
     clear hkS h50 h52
     go_loopw [11] (fun i wr => ∃ (k : Nat) (vs : Value) (le : List Ev), k ≤ kS ∧ i = .int .i64 k ∧ Hid (InE (kL : Int) (kK : Int) le k) ∧ MB wr w.heap.size w.heap.size Mb ⟨(kL : Int), y, li, lh, le, zz⟩ vi vh vs us ∧ Cur wr c ∧ Turns (fun k => k = c) w wr) (fun i _ => kS - (intOf i).toNat)
     case atStart => exact ⟨0, _, [], Nat.zero_le _, rfl, ⟨rfl, fun j hj => absurd hj (by simp)⟩, HM0.out, HC5.out, HT5.out⟩
     case round =>
      clear HM0 HC5 HT5
      obtain ⟨k, vs, le, hk, rfl, HE, hM, hC, hT⟩ := hrel
      have HM : Hid (MB wr w.heap.size w.heap.size Mb ⟨(kL : Int), y, li, lh, le, zz⟩ vi vh vs us) := hM
      have HC : Hid (Cur wr c) := hC
      have HT : Hid (Turns (fun k => k = c) w wr) := hT
      have hsz : w.heap.size ≤ wr.heap.size := hT.size
      clear hM hC hT
      by_cases hlt : k < kS
      ·have hki : (k : Int) < (kS : Int) := by omega
       obtain ⟨avs, cvs, hvs⟩ := owns_slice HM.out.e
       have hvk : vs = (.slice avs k cvs) := by rw [hvs]; exact congrArg (fun q => Value.slice avs q cvs) HE.out.1
       subst hvk
       clear hvs
       have k0 : wr.cell? ⟨Mb, 4, none⟩ = some (.slice avs k cvs) := HM.out.b.cell rfl
       have n0 : wr.cell? ⟨Mb, 0, none⟩ = some (.int .i64 (kL : Int)) := HM.out.b.cell rfl
       have HD0 : Hid ((MB wr.drew w.heap.size w.heap.size Mb ⟨(kL : Int), y, li, lh, le, zz⟩ vi vh (.slice avs k cvs) us) ∧ Cur wr.drew c ∧ Turns (fun k => k = c) w wr.drew) := ⟨HM.out.drew, HC.out.drew, ⟨HT.out.os, HT.out.tape, HT.out.output, HT.out.size, HT.out.block⟩⟩
       go_wp2_with fail
       go_region_law (first | (have hq := HME; refine step_append_own (w := u4.alloc (.cells #[.int .i64 t1, .int .i64 (-1), .int .i64 (k : Int), .int .i64 d1, .int .i64 q1, .int .i64 v1, .int .i64 (k : Int)] 53)) rfl (.tmp 72) (.tmp 87) 25 rfl w.heap.size 53 i7 (.agg #[.int .i64 0, .int .i64 0, .int .i64 0, .int .i64 0, .int .i64 0, .int .i64 0, .int .i64 0]) 7 56 Tryz.underlying25 hi7 hez0 hez1 hez2 rfl (by decide) (.slice avs k cvs) k (cellsL le) rfl HME.out ⟨u4.heap.size, 0, none⟩ 1 1 (cellsL [⟨t1, -1, (k : Int), d1, q1, v1, (k : Int)⟩]) rfl rfl (at_newE u4 ⟨t1, -1, (k : Int), d1, q1, v1, (k : Int)⟩) (cellsL_one _) (by unfold maxLen; omega) (by omega) (Nat.le_trans hs4 (sza u4 _)) ?_; intro v3 w3 hown3 hgrow3; have k5 : w3.cell? ⟨Mb, 4, none⟩ = some (.slice avs k cvs) := ((MB.alloc HD4.out.1 _).b.turns (grown_turns hgrow3) (owns_ne HD4.out.1.e HD4.out.1.b (by decide))).cell rfl; have f5 := ((MB.alloc HD4.out.1 _).b.turns (grown_turns hgrow3) (owns_ne HD4.out.1.e HD4.out.1.b (by decide))).free 4; obtain ⟨av3, cv3, hv3⟩ := owns_slice hown3; subst hv3) | (have hh4 := HD3; go_simp; go_at_call 47; refine (below_any c _ _ HD3.out.2.1).mono ?_; rintro e u4 ⟨v1, rfl, v10, v11, hC4, hT4⟩; (try dsimp only); have v12 := v11 (by omega); have HD4 : Hid ((MB u4 w.heap.size w.heap.size Mb ⟨(kL : Int), y, li, lh, le, zz⟩ vi vh (.slice avs k cvs) us) ∧ Cur u4 c ∧ Turns (fun k => k = c) w u4) := ⟨HD3.out.1.keptC hcw (Nat.le_refl _) hMw hT4, hC4, HD3.out.2.2.trans hT4⟩; have k4 : u4.cell? ⟨Mb, 4, none⟩ = some (.slice avs k cvs) := HD4.out.1.b.cell rfl; have n4 : u4.cell? ⟨Mb, 0, none⟩ = some (.int .i64 (kL : Int)) := HD4.out.1.b.cell rfl; have hs4 : w.heap.size ≤ u4.heap.size := HD4.out.2.2.size; have HME : Hid ((u4.alloc (.cells #[.int .i64 t1, .int .i64 (-1), .int .i64 (k : Int), .int .i64 d1, .int .i64 q1, .int .i64 v1, .int .i64 (k : Int)] 53)).ownsRow w.heap.size 53 7 (.slice avs k cvs) k (cellsL le)) := HE.out.1 ▸ (MB.alloc HD4.out.1 _).e; have k4a : (u4.alloc (.cells #[.int .i64 t1, .int .i64 (-1), .int .i64 (k : Int), .int .i64 d1, .int .i64 q1, .int .i64 v1, .int .i64 (k : Int)] 53)).cell? ⟨Mb, 4, none⟩ = some (.slice avs k cvs) := (MB.alloc HD4.out.1 _).b.cell rfl; clear hC4 hT4 v11) | (have hh3 := HD2; go_simp; go_at_call 47; refine (below_any c _ _ HD2.out.2.1).mono ?_; rintro e u3 ⟨q1, rfl, q10, q11, hC3, hT3⟩; (try dsimp only); have q12 := q11 (by omega); have HD3 : Hid ((MB u3 w.heap.size w.heap.size Mb ⟨(kL : Int), y, li, lh, le, zz⟩ vi vh (.slice avs k cvs) us) ∧ Cur u3 c ∧ Turns (fun k => k = c) w u3) := ⟨HD2.out.1.keptC hcw (Nat.le_refl _) hMw hT3, hC3, HD2.out.2.2.trans hT3⟩; have k3 : u3.cell? ⟨Mb, 4, none⟩ = some (.slice avs k cvs) := HD3.out.1.b.cell rfl; have n3 : u3.cell? ⟨Mb, 0, none⟩ = some (.int .i64 (kL : Int)) := HD3.out.1.b.cell rfl; clear hC3 hT3 q11) | (have hh2 := HD1; go_simp; go_at_call 47; refine (below_any c _ _ HD1.out.2.1).mono ?_; rintro e u2 ⟨d1, rfl, d10, d11, hC2, hT2⟩; (try dsimp only); have d12 := d11 (by omega); have HD2 : Hid ((MB u2 w.heap.size w.heap.size Mb ⟨(kL : Int), y, li, lh, le, zz⟩ vi vh (.slice avs k cvs) us) ∧ Cur u2 c ∧ Turns (fun k => k = c) w u2) := ⟨HD1.out.1.keptC hcw (Nat.le_refl _) hMw hT2, hC2, HD1.out.2.2.trans hT2⟩; have k2 : u2.cell? ⟨Mb, 4, none⟩ = some (.slice avs k cvs) := HD2.out.1.b.cell rfl; have n2 : u2.cell? ⟨Mb, 0, none⟩ = some (.int .i64 (kL : Int)) := HD2.out.1.b.cell rfl; clear hC2 hT2 d11) | (go_simp; go_at_call 47; refine (below_any c _ _ HD0.out.2.1).mono ?_; rintro e u1 ⟨t1, rfl, t10, t11, hC1, hT1⟩; (try dsimp only); have t12 := t11 (by omega); have HD1 : Hid ((MB u1 w.heap.size w.heap.size Mb ⟨(kL : Int), y, li, lh, le, zz⟩ vi vh (.slice avs k cvs) us) ∧ Cur u1 c ∧ Turns (fun k => k = c) w u1) := ⟨HD0.out.1.keptC hcw (Nat.le_refl _) hMw hT1, hC1, HD0.out.2.2.trans hT1⟩; have k1 : u1.cell? ⟨Mb, 4, none⟩ = some (.slice avs k cvs) := HD1.out.1.b.cell rfl; have n1 : u1.cell? ⟨Mb, 0, none⟩ = some (.int .i64 (kL : Int)) := HD1.out.1.b.cell rfl; clear hC1 hT1 t11))
       all_goals
        have HM3 : Hid (MB (w3.setCell ⟨Mb, 4, none⟩ (.slice av3 (k + 1) cv3)) w.heap.size w.heap.size Mb ⟨(kL : Int), y, li, lh, (le ++ [⟨t1, -1, (k : Int), d1, q1, v1, (k : Int)⟩]), zz⟩ vi vh (.slice av3 (k + 1) cv3) us) := (MB.alloc HD4.out.1 _).putE (x := ⟨t1, -1, (k : Int), d1, q1, v1, (k : Int)⟩) (by rw [show (⟨(kL : Int), y, li, lh, le, zz⟩ : Md).e.length = k from HE.out.1]; exact hown3) hgrow3
        have HC3 : Hid (Cur (w3.setCell ⟨Mb, 4, none⟩ (.slice av3 (k + 1) cv3)) c) := ((HD4.out.2.1.alloc _).grown hgrow3 (fun j e => by have := row_ge HD4.out.1.e e; omega)).put hMc _ _
        have HT3 : Hid (Turns (fun k => k = c) w (w3.setCell ⟨Mb, 4, none⟩ (.slice av3 (k + 1) cv3))) := ((HD4.out.2.2.alloc _).grownNew hgrow3 (fun j e => row_ge HD4.out.1.e e)).setNew (by omega) _ _
        have HE3 : Hid (InE (kL : Int) (kK : Int) (le ++ [⟨t1, -1, (k : Int), d1, q1, v1, (k : Int)⟩]) (k + 1)) := HE.out.snoc ⟨t10, t12⟩ ⟨d10, d12⟩ ⟨q10, q12⟩ ⟨v10, v12⟩
        clear hown3 hgrow3 k5 f5 k0 n0 k1 n1 k2 n2 k3 n3 k4 n4 k4a HME HD0 HD1 HD2 HD3 HD4
        generalize w3.setCell ⟨Mb, 4, none⟩ (.slice av3 (k + 1) cv3) = V3 at HM3 HC3 HT3 ⊢
        go_wp2
        go_roundw
        case rel => exact ⟨k + 1, _, _, by omega, by go_num, HE3.out, HM3.out, HC3.out, HT3.out⟩
        case measure => simp [intOf]; omega
      ·obtain rfl : kS = k := by omega
       clear hlt hk
       obtain ⟨ai, ci, hvi⟩ := owns_slice HM.out.i
       obtain ⟨ah, ch, hvh⟩ := owns_slice HM.out.h
       obtain ⟨ae, ce, hve⟩ := owns_slice HM.out.e
       subst hvi hvh hve
       have HOKM : Hid ((⟨(kL : Int), y, li, lh, le, zz⟩ : Md).ok = true) := drawn_ok (by omega) ⟨y0, by omega⟩ hzz (by omega) HI.out HH.out HE.out rfl rfl (by omega)
       have HE1 : Hid (1 ≤ le.length) := by (have := HE.out.1; show 1 ≤ le.length; omega)
       have b0 := HM.out.b.cell (i := 0) rfl
       have b1 := HM.out.b.cell (i := 1) rfl
       have b2 := HM.out.b.cell (i := 2) rfl
       have b3 := HM.out.b.cell (i := 3) rfl
       have b4 := HM.out.b.cell (i := 4) rfl
       have b5 := HM.out.b.cell (i := 5) rfl
       have q0 := HM.out.r.cell (i := 0) rfl
       have q1 := HM.out.r.cell (i := 1) rfl
       have q2 := HM.out.r.cell (i := 2) rfl
       have q3 := HM.out.r.cell (i := 3) rfl
       have q4 := HM.out.r.cell (i := 4) rfl
       have q5 := HM.out.r.cell (i := 5) rfl
       have qf := HM.out.r.free
       go_wp2
       clear q0 q1 q2 q3 q4 q5 qf b0 b1 b2 b3 b4 b5
       obtain ⟨X5, hX5⟩ : ∃ X5, put6 wr w.heap.size (.int .i64 (kL : Int)) (.int .i64 y) (.slice ai li.length ci) (.slice ah lh.length ch) (.slice ae le.length ce) (.int .i64 zz) = X5 := ⟨_, rfl⟩
       have hP := HM.out.r.put6 (.int .i64 (kL : Int)) (.int .i64 y) (.slice ai li.length ci) (.slice ah lh.length ch) (.slice ae le.length ce) (.int .i64 zz)
       have ht := put6_turns wr w.heap.size (.int .i64 (kL : Int)) (.int .i64 y) (.slice ai li.length ci) (.slice ah lh.length ch) (.slice ae le.length ce) (.int .i64 zz)
       rw [hX5] at hP ht
       unfold put6 at hX5
       rw [hX5]
       have t0 := hP.cell (i := 0) rfl
       have t1 := hP.cell (i := 1) rfl
       have t2 := hP.cell (i := 2) rfl
       have t3 := hP.cell (i := 3) rfl
       have t4 := hP.cell (i := 4) rfl
       have t5 := hP.cell (i := 5) rfl
       refine bodyPost_ret (v := .agg #[.int .i64 (kL : Int), .int .i64 y, .slice ai li.length ci, .slice ah lh.length ch, .slice ae le.length ce, .int .i64 zz]) (by simp [results, Tryz.results45, go_sem, t0, t1, t2, t3, t4, t5]) rfl ⟨⟨(kL : Int), y, li, lh, le, zz⟩, _, _, _, rfl, HOKM.out, ⟨us, HM.out.mo ht⟩, HE1.out, HC.out.turns ht (fun j hj => by omega), HT.out.trans' ht (Nat.le_refl _)⟩
end Go.Proofs.YtbljfphdghfkfaaGreatDoor
