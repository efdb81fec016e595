/- PIk, PId -/
import Derived.Test.YtnccenbkpocjgaaGreatExactHearG22
import Derived.Test.YtnccenbkpocjgaaGreatExactHearG24
import Derived.Test.YtnccenbkpocjgaaGreatExactHearG18
import Derived.Test.YtnccenbkpocjgaaGreatExactHearG04
/- The program's pastOk. -/
namespace Go.Proofs.YtnccenbkpocjgaaGreat
open Go.RowKit
theorem hidPIk {p : Prop} (h : p) : Hid p := h
set_option maxRecDepth 100000 in
set_option maxHeartbeats 8000000 in
theorem iPastOk (x : Value) (p : Pa) (w : World) (hw : p.wt ≤ 1048576) (h : IsPart w x p) :
  Calls Tryz.prog 115 #[x] w fun e w' => Says e (∀ i, i < p.p.length → Past2 p i) ∧ Below w.heap.size w w' := by
 obtain ⟨v1, v4, v5, v6, rfl, h1, h4, h5, h6⟩ := h
 have hpl : p.p.length ≤ 1048576 := by have := pastsD_wt p.p; unfold Pa.wt at hw; omega
 have HWP : Hid (∀ i, i < p.p.length → (psAt p.p i).b.r.length ≤ 1048576 ∧ (psAt p.p i).s.length ≤ 1048576 ∧ (psAt p.p i).x.length ≤ 1048576) := fun i hi => by
  have h9 : (psAt p.p i).wt ≤ (pastsD p.p).wt := Ps.wt_le hi
  unfold Ps.wt at h9
  unfold Pa.wt at hw
  simp only [ints_wt, evs_wt, ems_wt] at h9 hw
  omega
 obtain ⟨pa, pc, rfl, _, _, h4⟩ := IsD.parts (c := 12) (n := p.p.length) h4
 have H4 := hidPIk h4
 clear h1 h4 h5 h6 hw
 obtain ⟨W0, hW0⟩ : ∃ W0, w.alloc (.cells #[.int .i64 p.n, v1, .int .i64 p.st.q, .int .i64 p.st.d, .slice pa p.p.length pc, v5, v6] 33) = W0 := ⟨_, rfl⟩
 have HB0 : Hid (Below w.heap.size w W0) := by rw [← hW0]; exact (Below.refl _ w).alloc (Nat.le_refl _) _
 have HP0 : Hid (Bk W0 w.heap.size 33 #[.int .i64 p.n, v1, .int .i64 p.st.q, .int .i64 p.st.d, .slice pa p.p.length pc, v5, v6]) := by rw [← hW0]; exact Bk.new w _ _
 have hs0 : w.heap.size < W0.heap.size := HP0.out.lt
 have p4 := HP0.out.cell (i := 4) rfl
 go_enter Tryz.func115, Tryz.ntmps115
 go_wp2
 clear p4 hW0
 go_loopw [8] (fun i wr => ∃ k : Nat, k ≤ p.p.length ∧ i = .int .i64 k ∧ Hid (∀ j, j < k → Past2 p j) ∧ Below W0.heap.size W0 wr) (fun i _ => p.p.length - (intOf i).toNat)
 case atStart => exact ⟨0, Nat.zero_le _, rfl, fun j hj => by omega, Below.refl _ _⟩
 case round =>
  obtain ⟨k, hk, rfl, HA, hB⟩ := hrel
  have HB := hidPIk hB
  have HBw := hidPIk (HB0.out.trans (hB.mono (by omega)))
  have hsr : W0.heap.size ≤ wr.heap.size := hB.size
  have HPr := hidPIk (HP0.out.below hB)
  clear hB
  by_cases hlt : k < p.p.length
  ·obtain ⟨b, off, hpa, hb, hc⟩ := H4.out.resolve_left (by omega)
   subst hpa
   obtain ⟨ua, ub, uc, f0, f1, f2, f3, f4, f5, f6, f7, f8, f9, f10, f11, d7, d10, d11⟩ := pastsD_in (l := p.p) (n := p.p.length) (fun j hj => by
    obtain ⟨u, hu, hd⟩ := hc j hj
    exact ⟨u, (HBw.out.cell (p := ⟨b, off + j, none⟩) hb).trans hu, hd.under HBw.out⟩) hlt
   obtain ⟨a7, c7, rfl, _⟩ := IsD.len (c := 1) (n := (psAt p.p k).b.r.length) d7
   obtain ⟨a10, c10, rfl, _⟩ := IsD.len (c := 7) (n := (psAt p.p k).s.length) d10
   obtain ⟨a11, c11, rfl, _⟩ := IsD.len (c := 3) (n := (psAt p.p k).x.length) d11
   have hki : (k : Int) < (p.p.length : Int) := by omega
   obtain ⟨W1, hW1⟩ : ∃ W1, wr.alloc (.cells #[.int .i64 (psAt p.p k).e.t, .int .i64 (psAt p.p k).e.s, .int .i64 (psAt p.p k).e.q, .int .i64 (psAt p.p k).e.d, .int .i64 (psAt p.p k).e.k, .int .i64 (psAt p.p k).e.v, .int .i64 (psAt p.p k).e.g, .slice a7 (psAt p.p k).b.r.length c7, .int .i64 (psAt p.p k).b.q, .int .i64 (psAt p.p k).b.d, .slice a10 (psAt p.p k).s.length c10, .slice a11 (psAt p.p k).x.length c11] 126) = W1 := ⟨_, rfl⟩
   have hB1 : Below wr.heap.size wr W1 := by rw [← hW1]; exact (Below.refl _ wr).alloc (Nat.le_refl _) _
   have HB1 := hidPIk hB1
   have HX : Hid (Bk W1 wr.heap.size 126 #[.int .i64 (psAt p.p k).e.t, .int .i64 (psAt p.p k).e.s, .int .i64 (psAt p.p k).e.q, .int .i64 (psAt p.p k).e.d, .int .i64 (psAt p.p k).e.k, .int .i64 (psAt p.p k).e.v, .int .i64 (psAt p.p k).e.g, .slice a7 (psAt p.p k).b.r.length c7, .int .i64 (psAt p.p k).b.q, .int .i64 (psAt p.p k).b.d, .slice a10 (psAt p.p k).s.length c10, .slice a11 (psAt p.p k).x.length c11]) := by rw [← hW1]; exact Bk.new _ _ _
   have HSt : Hid (IsS W1 (.agg #[.slice a7 (psAt p.p k).b.r.length c7, .int .i64 (psAt p.p k).b.q, .int .i64 (psAt p.p k).b.d]) (psAt p.p k).b) := ⟨_, rfl, (d7.under hB1).isI⟩
   have HSe := hidPIk ((d10.under hB1).isEvs)
   have HEm := hidPIk ((d11.under hB1).isX)
   have HWk := hidPIk (HWP.out k hlt)
   have HBW := hidPIk (HB.out.trans (hB1.mono hsr))
   have x7 := HX.out.cell (i := 7) rfl
   have x8 := HX.out.cell (i := 8) rfl
   have x9 := HX.out.cell (i := 9) rfl
   clear hc d7 d10 d11 hB1
   go_wp2_with fail
   clear hW1 x7 x8 x9 f0 f1 f2 f3 f4 f5 f6 f7 f8 f9 f10 f11
   refine (iStOk _ (psAt p.p k).b _ HSt.out).mono ?_
   rintro e w2 ⟨rfl, hb2⟩
   have HB2 := hidPIk hb2
   have HBW2 := hidPIk (HBW.out.trans (hb2.mono HBW.out.size))
   have HBw2 := hidPIk (HB0.out.trans (HBW2.out.mono (by omega)))
   have HX2 := hidPIk (HX.out.below hb2)
   have HP2 := HP0.out.below HBW2.out
   have y0 := HP2.cell (i := 0) rfl
   have x0 := HX2.out.cell (i := 0) rfl
   have x1 := HX2.out.cell (i := 1) rfl
   have x2 := HX2.out.cell (i := 2) rfl
   have x3 := HX2.out.cell (i := 3) rfl
   have x4 := HX2.out.cell (i := 4) rfl
   have x5 := HX2.out.cell (i := 5) rfl
   have x6 := HX2.out.cell (i := 6) rfl
   have x7 := HX2.out.cell (i := 7) rfl
   have x8 := HX2.out.cell (i := 8) rfl
   have x9 := HX2.out.cell (i := 9) rfl
   have x10 := HX2.out.cell (i := 10) rfl
   have x11 := HX2.out.cell (i := 11) rfl
   clear hb2 HP2
   cases hst : (psAt p.p k).b.ok
   ·have KS := hidPIk hst
    clear hst
    go_wp2
    go_ret
    exact ⟨Says.no (fun h => by have := (h k hlt).1; rw [KS.out] at this; cases this), HBw2.out⟩
   have KS := hidPIk hst
   clear hst
   go_wp2_with fail
   clear x0 x1 x2 x3 x4 x5 x6 x7 x8 x9 x10 x11 y0
   obtain ⟨ea, ec, eb, heq, hbe, hI⟩ := IsEvs.parts (HSe.out.below HB2.out) (by have := HX2.out.lt; omega)
   cases heq
   refine (iSent _ _ a10 c10 eb (psAt p.p k) p.n _ (by have := HWk.out.2.1; omega) hI hbe).mono ?_
   rintro e w3 ⟨⟨bs, rfl, hs⟩, hb3⟩
   have HSs := hidPIk hs
   have HB3 := hidPIk hb3
   have HBW3 := hidPIk (HBW2.out.trans (hb3.mono HBW2.out.size))
   have HBw3 := hidPIk (HB0.out.trans (HBW3.out.mono (by omega)))
   have HX3 := hidPIk (HX2.out.below hb3)
   have x11 := HX3.out.cell (i := 11) rfl
   clear hs hb3 hI hbe
   cases bs
   ·go_wp2
    go_ret
    exact ⟨Says.no (fun h => by have := HSs.out.2 (h k hlt).2.1; cases this), HBw3.out⟩
   have KE := hidPIk (HSs.out.1 rfl)
   by_cases h8 : 8 < (psAt p.p k).x.length
   ·have h8' : (8 : Int) < ((psAt p.p k).x.length : Int) := by omega
    have KM : Hid (emsB (psAt p.p k).x = false) := by
     show emsB (psAt p.p k).x = false
     unfold emsB
     rw [decide_eq_false (by omega)]
     rfl
    go_wp2
    go_ret
    exact ⟨Says.no (fun h => by have := (h k hlt).2.2; rw [KM.out] at this; cases this), HBw3.out⟩
   have h8' : ¬ (8 : Int) < ((psAt p.p k).x.length : Int) := by omega
   have H8 : Hid ((psAt p.p k).x.length ≤ 8) := by show (psAt p.p k).x.length ≤ 8; omega
   clear h8
   go_wp2_with fail
   clear x11
   refine (iEmits _ (psAt p.p k).x _ (by have := HWk.out.2.2; omega) ((HEm.out.below HB2.out).below HB3.out)).mono ?_
   rintro e w4 ⟨rfl, hb4⟩
   have HBW4 := hidPIk (HBW3.out.trans (hb4.mono HBW3.out.size))
   have HBw4 := hidPIk (HB0.out.trans (HBW4.out.mono (by omega)))
   clear hb4
   cases hem : emsC (psAt p.p k).x
   ·have KM : Hid (emsB (psAt p.p k).x = false) := by
     show emsB (psAt p.p k).x = false
     rw [emsB_is, hem, Bool.and_false]
    clear hem
    go_wp2
    go_ret
    exact ⟨Says.no (fun h => by have := (h k hlt).2.2; rw [KM.out] at this; cases this), HBw4.out⟩
   have KM : Hid (emsB (psAt p.p k).x = true) := by
    show emsB (psAt p.p k).x = true
    rw [emsB_is, hem, decide_eq_true H8.out]
    rfl
   clear hem
   go_wp2
   go_roundw
   case rel => exact ⟨k + 1, by omega, by go_num, fun j hj => by
    by_cases e : j = k
    ·subst e; exact ⟨KS.out, KE.out, KM.out⟩
    ·exact HA.out j (by omega), HBW4.out⟩
   case measure => simp [intOf]; omega
  ·go_wp2
   go_ret
   exact ⟨Says.yes (fun j hj => HA.out j (by omega)), HBw.out⟩
end Go.Proofs.YtnccenbkpocjgaaGreat

/- The program's doneOf. -/
namespace Go.Proofs.YtnccenbkpocjgaaGreat
open Go.RowKit
def RowK (w : World) (B g n : Nat) (l : List Ev) (k : Nat) : Prop := ∃ cs, w.ownsRow B 55 7 (.slice (some ⟨g, 0, none⟩) n n) n cs ∧ cs.take (k * 7) = cellsL (l.take k)
theorem set7_take {cs : List Value} {k : Nat} (hl : k * 7 + 7 ≤ cs.length) (v0 v1 v2 v3 v4 v5 v6 : Value) :
  (((((((cs.set (k * 7) v0).set (k * 7 + 1) v1).set (k * 7 + 2) v2).set (k * 7 + 3) v3).set (k * 7 + 4) v4).set (k * 7 + 5) v5).set (k * 7 + 6) v6).take ((k + 1) * 7) = cs.take (k * 7) ++ [v0, v1, v2, v3, v4, v5, v6] := by
 apply List.ext_getElem?
 intro j
 have hlt : (cs.take (k * 7)).length = k * 7 := by simp; omega
 by_cases h1 : j < k * 7
 ·rw [List.getElem?_take_of_lt (by omega), List.getElem?_append_left (by omega), List.getElem?_take_of_lt h1]
  rw [List.getElem?_set_ne (by omega), List.getElem?_set_ne (by omega), List.getElem?_set_ne (by omega), List.getElem?_set_ne (by omega), List.getElem?_set_ne (by omega), List.getElem?_set_ne (by omega), List.getElem?_set_ne (by omega)]
 ·rw [List.getElem?_append_right (by omega), hlt]
  obtain ⟨r, rfl⟩ : ∃ r, j = k * 7 + r := ⟨j - k * 7, by omega⟩
  by_cases h2 : r < 7
  ·rw [List.getElem?_take_of_lt (by omega), Nat.add_sub_cancel_left]
   match r, h2 with
   | 0, _ => simp [List.getElem?_set]; omega
   | 1, _ => simp [List.getElem?_set]; omega
   | 2, _ => simp [List.getElem?_set]; omega
   | 3, _ => simp [List.getElem?_set]; omega
   | 4, _ => simp [List.getElem?_set]; omega
   | 5, _ => simp [List.getElem?_set]; omega
   | 6, _ => simp [List.getElem?_set]; omega
  ·rw [List.getElem?_eq_none (by simp; omega), List.getElem?_eq_none (by simp; omega)]
theorem RowK.put {w : World} {B g n k : Nat} {l : List Ev} (h : RowK w B g n l k) (hk : k < n) (hl : l.length = n) : RowK (put7 w g (k * 7) (evAt l k)) B g n l (k + 1) := by
 obtain ⟨cs, h1, h2⟩ := h
 have hlen : cs.length = n * 7 := h1.1
 have s0 := (World.ownsRow.stored h1 (k * 7) (.int .i64 (evAt l k).t)).1
 have s1 := (World.ownsRow.stored s0 (k * 7 + 1) (.int .i64 (evAt l k).s)).1
 have s2 := (World.ownsRow.stored s1 (k * 7 + 2) (.int .i64 (evAt l k).q)).1
 have s3 := (World.ownsRow.stored s2 (k * 7 + 3) (.int .i64 (evAt l k).d)).1
 have s4 := (World.ownsRow.stored s3 (k * 7 + 4) (.int .i64 (evAt l k).k)).1
 have s5 := (World.ownsRow.stored s4 (k * 7 + 5) (.int .i64 (evAt l k).v)).1
 have s6 := (World.ownsRow.stored s5 (k * 7 + 6) (.int .i64 (evAt l k).g)).1
 refine ⟨_, s6, ?_⟩
 rw [set7_take (by omega), h2]
 have e : l.take (k + 1) = l.take k ++ [evAt l k] := by
  rw [List.take_add_one, List.getElem?_eq_getElem (by omega)]
  simp [evAt, show k < l.length by omega]
 rw [e, cellsL_append]
 rfl
theorem RowK.cells {w : World} {B g n k : Nat} {l : List Ev} (h : RowK w B g n l k) (hk : k < n) : ∃ c0 c1 c2 c3 c4 c5 c6, (w.cell? ⟨g, k * 7, none⟩ = some c0 ∧ w.cell? ⟨g, k * 7 + 1, none⟩ = some c1 ∧ w.cell? ⟨g, k * 7 + 2, none⟩ = some c2 ∧ w.cell? ⟨g, k * 7 + 3, none⟩ = some c3 ∧ w.cell? ⟨g, k * 7 + 4, none⟩ = some c4 ∧ w.cell? ⟨g, k * 7 + 5, none⟩ = some c5 ∧ w.cell? ⟨g, k * 7 + 6, none⟩ = some c6) ∧ ∀ j, w.frozen? ⟨g, j, none⟩ = false := by
 obtain ⟨cs, h1, h2⟩ := h
 have hlen : cs.length = n * 7 := h1.1
 have hh : ∀ r, r < 7 → ∃ c, w.cell? ⟨g, k * 7 + r, none⟩ = some c := fun r hr => ⟨_, (World.ownsRow.cellAt h1 (k * 7 + r) (by omega)).trans (List.getElem?_eq_getElem (by omega))⟩
 obtain ⟨c0, g0⟩ := hh 0 (by omega)
 obtain ⟨c1, g1⟩ := hh 1 (by omega)
 obtain ⟨c2, g2⟩ := hh 2 (by omega)
 obtain ⟨c3, g3⟩ := hh 3 (by omega)
 obtain ⟨c4, g4⟩ := hh 4 (by omega)
 obtain ⟨c5, g5⟩ := hh 5 (by omega)
 obtain ⟨c6, g6⟩ := hh 6 (by omega)
 exact ⟨c0, c1, c2, c3, c4, c5, c6, ⟨g0, g1, g2, g3, g4, g5, g6⟩, fun j => World.ownsRow.frozenAt h1 j⟩
theorem RowK.below {w w' : World} {B g n k : Nat} {l : List Ev} (h : RowK w B g n l k) (hb : Below w.heap.size w w') : RowK w' B g n l k := by
 obtain ⟨cs, h1, h2⟩ := h
 obtain ⟨h0, ⟨e, h1⟩ | ⟨g', cap, cur, e, hg, hc, h1⟩⟩ := h1
 ·exact ⟨cs, ⟨h0, .inl ⟨e, h1⟩⟩, h2⟩
 ·exact ⟨cs, ⟨h0, .inr ⟨g', cap, cur, e, hg, (hb.block g' (Array.getElem?_eq_some_iff.1 hc).1).trans hc, h1⟩⟩, h2⟩
theorem RowK.all {w : World} {B g n : Nat} {l : List Ev} (h : RowK w B g n l n) (hl : l.length = n) : OwnR B w (.slice (some ⟨g, 0, none⟩) n n) l := by
 obtain ⟨cs, h1, h2⟩ := h
 have hlen : cs.length = n * 7 := h1.1
 rw [List.take_of_length_le (by omega), List.take_of_length_le (by omega)] at h2
 unfold OwnR
 rw [hl, ← h2]
 exact h1
theorem RowK.lt {w : World} {B g n k : Nat} {l : List Ev} (h : RowK w B g n l k) : B ≤ g ∧ g < w.heap.size := by
 obtain ⟨cs, h1, _⟩ := h
 exact World.ownsRow.lt h1 g rfl
set_option maxRecDepth 100000 in
set_option maxHeartbeats 8000000 in
theorem iDone (x : Value) (p : Pa) (w : World) (hw : p.wt ≤ 1048576) (h : IsPart w x p) :
  Calls Tryz.prog 118 #[x] w fun e w' => ∃ y, e = .returned y ∧ OwnR w.heap.size w' y p.es ∧ Below w.heap.size w w' := by
 obtain ⟨v1, v4, v5, v6, rfl, h1, h4, h5, h6⟩ := h
 have hpl : p.p.length ≤ 1048576 := by have := pastsD_wt p.p; unfold Pa.wt at hw; omega
 obtain ⟨pa, pc, rfl, _, _, h4⟩ := IsD.parts (c := 12) (n := p.p.length) h4
 have H4 : Hid (p.p.length = 0 ∨ ∃ b off, pa = some ⟨b, off, none⟩ ∧ b < w.heap.size ∧ ∀ j, j < p.p.length * 12 → ∃ u, w.cell? ⟨b, off + j, none⟩ = some u ∧ IsD w u (pastsD_f p.p j)) := h4
 clear h1 h4 h5 h6 hw
 have hp : (0 : Int) ≤ (p.p.length : Int) := by omega
 obtain ⟨i0, hi, hz0, hz1, hz2⟩ := info_parts info25
 obtain ⟨W0, hW0⟩ : ∃ W0, w.alloc (.cells #[.int .i64 p.n, v1, .int .i64 p.st.q, .int .i64 p.st.d, .slice pa p.p.length pc, v5, v6] 33) = W0 := ⟨_, rfl⟩
 have HB0 : Hid (Below w.heap.size w W0) := by rw [← hW0]; exact (Below.refl _ w).alloc (Nat.le_refl _) _
 have HP0 : Hid (Bk W0 w.heap.size 33 #[.int .i64 p.n, v1, .int .i64 p.st.q, .int .i64 p.st.d, .slice pa p.p.length pc, v5, v6]) := by rw [← hW0]; exact Bk.new w _ _
 have hs0 : w.heap.size < W0.heap.size := HP0.out.lt
 have p4 := HP0.out.cell (i := 4) rfl
 go_enter Tryz.func118, Tryz.ntmps118
 go_wp2_with (at_make; refine wpList_make_full _ rfl _ _ 31 rfl W0.heap.size 55 i0 _ 7 Tryz.underlying31 hi hz0 hz1 .i64 .i64 p.p.length p.p.length p.p.length rfl rfl rfl rfl (by rw [hz2]; omega) (by unfold maxLen; omega) (Nat.le_refl _) ?_; intro w1 hown hgrow; have hb1 : Below W0.heap.size W0 w1 := (Below.refl _ _).grown hgrow (Nat.le_refl _) (fun k e => by cases e); have hR1 : RowK w1 W0.heap.size W0.heap.size p.p.length p.es 0 := ⟨_, hown, by simp [cellsL]⟩; have q4 := (HP0.out.below hb1).cell (i := 4) rfl; have HB1 : Hid (Below W0.heap.size W0 w1) := hb1; have HR1 : Hid (RowK w1 W0.heap.size W0.heap.size p.p.length p.es 0) := hR1; clear hown hgrow hb1 hR1)
 clear p4 q4 hW0 hi hz0 hz1 hz2
 go_loopw [13] (fun i wr => ∃ k : Nat, k ≤ p.p.length ∧ i = .int .i64 k ∧ Below W0.heap.size W0 wr ∧ RowK wr W0.heap.size W0.heap.size p.p.length p.es k) (fun i _ => p.p.length - (intOf i).toNat)
 case atStart => exact ⟨0, Nat.zero_le _, rfl, HB1.out, HR1.out⟩
 case round =>
  clear HB1 HR1
  obtain ⟨k, hk, rfl, hB, hR⟩ := hrel
  have HB : Hid (Below W0.heap.size W0 wr) := hB
  have HBw : Hid (Below w.heap.size w wr) := HB0.out.trans (hB.mono (by omega))
  have HR : Hid (RowK wr W0.heap.size W0.heap.size p.p.length p.es k) := hR
  have hsr : W0.heap.size < wr.heap.size := hR.lt.2
  clear hB hR
  by_cases hlt : k < p.p.length
  ·obtain ⟨b, off, rfl, hb, hc⟩ := H4.out.resolve_left (by omega)
   obtain ⟨ua, ub, uc, f0, f1, f2, f3, f4, f5, f6, f7, f8, f9, f10, f11, d7, d10, d11⟩ := pastsD_in (l := p.p) (n := p.p.length) (fun j hj => by
    obtain ⟨u, hu, hd⟩ := hc j hj
    exact ⟨u, (HBw.out.cell (p := ⟨b, off + j, none⟩) hb).trans hu, hd.under HBw.out⟩) hlt
   obtain ⟨a7, c7, rfl, _⟩ := IsD.len (c := 1) (n := (psAt p.p k).b.r.length) d7
   obtain ⟨a10, c10, rfl, _⟩ := IsD.len (c := 7) (n := (psAt p.p k).s.length) d10
   obtain ⟨a11, c11, rfl, _⟩ := IsD.len (c := 3) (n := (psAt p.p k).x.length) d11
   have hki : (k : Int) < (p.p.length : Int) := by omega
   obtain ⟨W1, hW1⟩ : ∃ W1, wr.alloc (.cells #[.int .i64 (psAt p.p k).e.t, .int .i64 (psAt p.p k).e.s, .int .i64 (psAt p.p k).e.q, .int .i64 (psAt p.p k).e.d, .int .i64 (psAt p.p k).e.k, .int .i64 (psAt p.p k).e.v, .int .i64 (psAt p.p k).e.g, .slice a7 (psAt p.p k).b.r.length c7, .int .i64 (psAt p.p k).b.q, .int .i64 (psAt p.p k).b.d, .slice a10 (psAt p.p k).s.length c10, .slice a11 (psAt p.p k).x.length c11] 126) = W1 := ⟨_, rfl⟩
   have hB1 : Below wr.heap.size wr W1 := by rw [← hW1]; exact (Below.refl _ wr).alloc (Nat.le_refl _) _
   have HB1 : Hid (Below wr.heap.size wr W1) := hB1
   have HX : Bk W1 wr.heap.size 126 #[.int .i64 (psAt p.p k).e.t, .int .i64 (psAt p.p k).e.s, .int .i64 (psAt p.p k).e.q, .int .i64 (psAt p.p k).e.d, .int .i64 (psAt p.p k).e.k, .int .i64 (psAt p.p k).e.v, .int .i64 (psAt p.p k).e.g, .slice a7 (psAt p.p k).b.r.length c7, .int .i64 (psAt p.p k).b.q, .int .i64 (psAt p.p k).b.d, .slice a10 (psAt p.p k).s.length c10, .slice a11 (psAt p.p k).x.length c11] := by rw [← hW1]; exact Bk.new _ _ _
   have HR1 : Hid (RowK W1 W0.heap.size W0.heap.size p.p.length p.es k) := HR.out.below hB1
   have x0 := HX.cell (i := 0) rfl
   have x1 := HX.cell (i := 1) rfl
   have x2 := HX.cell (i := 2) rfl
   have x3 := HX.cell (i := 3) rfl
   have x4 := HX.cell (i := 4) rfl
   have x5 := HX.cell (i := 5) rfl
   have x6 := HX.cell (i := 6) rfl
   obtain ⟨c0', c1', c2', c3', c4', c5', c6', ⟨g0, g1, g2, g3, g4, g5, g6⟩, gf⟩ := HR1.out.cells hlt
   have z0 := gf (k * 7)
   have z1 := gf (k * 7 + 1)
   have z2 := gf (k * 7 + 2)
   have z3 := gf (k * 7 + 3)
   have z4 := gf (k * 7 + 4)
   have z5 := gf (k * 7 + 5)
   have z6 := gf (k * 7 + 6)
   clear hc d7 d10 d11 hB1 HX gf
   go_wp2
   go_roundw
   case rel =>
    have hp7 := HR1.out.put hlt (es_length p)
    rw [es_at p hlt] at hp7
    have hbb : Below W0.heap.size W0 W1 := HB.out.trans (HB1.out.mono (by omega))
    exact ⟨k + 1, by omega, by go_num, put7_below hbb (Nat.le_refl _) _ _, hp7⟩
   case measure => simp [intOf]; omega
  ·have he : k = p.p.length := by omega
   have HRe : Hid (RowK wr W0.heap.size W0.heap.size p.p.length p.es p.p.length) := by
    have h9 := HR.out
    rw [he] at h9
    exact h9
   go_wp2
   go_ret
   exact ⟨_, rfl, (HRe.out.all (es_length p)).mono (by omega), HBw.out⟩
end Go.Proofs.YtnccenbkpocjgaaGreat

