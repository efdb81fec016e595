/- PIk, Copies, Rowed, OwnE, Find, PId, PIg -/
import Derived.Test.YtnlhcdchmgfipaaGreatExactKernelOkG21
import Derived.Test.YtnlhcdchmgfipaaGreatExactKernelOkG22
import Derived.Test.YtnlhcdchmgfipaaGreatExactKernelOkG01
import Derived.Laws.OwnMore
import Derived.WalkSmall
import Derived.Laws.AppendOwnNone
import Derived.Deep.RegionLaw
import Derived.Test.YtnlhcdchmgfipaaGreatExactKernelOkG16
import Derived.Deep.RegionHeld3
/- The program's pastOk. -/
namespace Go.Proofs.YtnlhcdchmgfipaaGreat
open Go.RowKit
set_option maxRecDepth 100000 in
set_option maxHeartbeats 8000000 in
theorem iPastOk (x : Value) (p : Pa) (w : World) (hw : p.wt ≤ 1048576) (h : IsPart w x p) :
    Calls Tryz.prog 169 #[x] w fun e w' => Says e (∀ i, i < p.p.length → Past2 p i) ∧ Below w.heap.size w w' := by
  obtain ⟨v1, v4, v5, v6, rfl, h1, h4, h5, h6⟩ := h
  have hpl : p.p.length ≤ 1048576 := by have := pastsD_wt p.p; unfold Pa.wt at hw; omega
  have HWP : Hid (∀ i, i < p.p.length → (psAt p.p i).b.r.length ≤ 1048576 ∧ (psAt p.p i).s.length ≤ 1048576 ∧ (psAt p.p i).x.length ≤ 1048576) := fun i hi => by
    have h9 : (psAt p.p i).wt ≤ (pastsD p.p).wt := Ps.wt_le hi
    unfold Ps.wt at h9
    unfold Pa.wt at hw
    simp only [ints_wt, evs_wt, ems_wt] at h9 hw
    omega
  obtain ⟨pa, pc, rfl, _, _, h4⟩ := IsD.parts (c := 12) (n := p.p.length) h4
  have H4 : Hid (p.p.length = 0 ∨ ∃ b off, pa = some ⟨b, off, none⟩ ∧ b < w.heap.size ∧ ∀ j, j < p.p.length * 12 → ∃ u, w.cell? ⟨b, off + j, none⟩ = some u ∧ IsD w u (pastsD_f p.p j)) := h4
  clear h1 h4 h5 h6 hw
  obtain ⟨W0, hW0⟩ : ∃ W0, w.alloc (.cells #[.int .i64 p.n, v1, .int .i64 p.st.q, .int .i64 p.st.d, .slice pa p.p.length pc, v5, v6] 88) = W0 := ⟨_, rfl⟩
  have HB0 : Hid (Below w.heap.size w W0) := by rw [← hW0]; exact (Below.refl _ w).alloc (Nat.le_refl _) _
  have HP0 : Hid (Bk W0 w.heap.size 88 #[.int .i64 p.n, v1, .int .i64 p.st.q, .int .i64 p.st.d, .slice pa p.p.length pc, v5, v6]) := by rw [← hW0]; exact Bk.new w _ _
  have hs0 : w.heap.size < W0.heap.size := HP0.out.lt
  have p4 := HP0.out.cell (i := 4) rfl
  go_enter Tryz.func169, Tryz.ntmps169
  go_wp2
  clear p4 hW0
  go_loopw [8] (fun i wr => ∃ k : Nat, k ≤ p.p.length ∧ i = .int .i64 k ∧ Hid (∀ j, j < k → Past2 p j) ∧ Below W0.heap.size W0 wr) (fun i _ => p.p.length - (intOf i).toNat)
  case atStart => exact ⟨0, Nat.zero_le _, rfl, fun j hj => by omega, Below.refl _ _⟩
  case round =>
    obtain ⟨k, hk, rfl, HA, hB⟩ := hrel
    have HB : Hid (Below W0.heap.size W0 wr) := hB
    have HBw : Hid (Below w.heap.size w wr) := HB0.out.trans (hB.mono (by omega))
    have hsr : W0.heap.size ≤ wr.heap.size := hB.size
    have HPr : Hid (Bk wr w.heap.size 88 #[.int .i64 p.n, v1, .int .i64 p.st.q, .int .i64 p.st.d, .slice pa p.p.length pc, v5, v6]) := HP0.out.below hB
    clear hB
    by_cases hlt : k < p.p.length
    · obtain ⟨b, off, hpa, hb, hc⟩ := H4.out.resolve_left (by omega)
      subst hpa
      obtain ⟨ua, ub, uc, f0, f1, f2, f3, f4, f5, f6, f7, f8, f9, f10, f11, d7, d10, d11⟩ := pastsD_in (l := p.p) (n := p.p.length) (fun j hj => by
        obtain ⟨u, hu, hd⟩ := hc j hj
        exact ⟨u, (HBw.out.cell (p := ⟨b, off + j, none⟩) hb).trans hu, hd.under HBw.out⟩) hlt
      obtain ⟨a7, c7, rfl, _⟩ := IsD.len (c := 1) (n := (psAt p.p k).b.r.length) d7
      obtain ⟨a10, c10, rfl, _⟩ := IsD.len (c := 7) (n := (psAt p.p k).s.length) d10
      obtain ⟨a11, c11, rfl, _⟩ := IsD.len (c := 3) (n := (psAt p.p k).x.length) d11
      have hki : (k : Int) < (p.p.length : Int) := by omega
      obtain ⟨W1, hW1⟩ : ∃ W1, wr.alloc (.cells #[.int .i64 (psAt p.p k).e.t, .int .i64 (psAt p.p k).e.s, .int .i64 (psAt p.p k).e.q, .int .i64 (psAt p.p k).e.d, .int .i64 (psAt p.p k).e.k, .int .i64 (psAt p.p k).e.v, .int .i64 (psAt p.p k).e.g, .slice a7 (psAt p.p k).b.r.length c7, .int .i64 (psAt p.p k).b.q, .int .i64 (psAt p.p k).b.d, .slice a10 (psAt p.p k).s.length c10, .slice a11 (psAt p.p k).x.length c11] 147) = W1 := ⟨_, rfl⟩
      have hB1 : Below wr.heap.size wr W1 := by rw [← hW1]; exact (Below.refl _ wr).alloc (Nat.le_refl _) _
      have HB1 : Hid (Below wr.heap.size wr W1) := hB1
      have HX : Hid (Bk W1 wr.heap.size 147 #[.int .i64 (psAt p.p k).e.t, .int .i64 (psAt p.p k).e.s, .int .i64 (psAt p.p k).e.q, .int .i64 (psAt p.p k).e.d, .int .i64 (psAt p.p k).e.k, .int .i64 (psAt p.p k).e.v, .int .i64 (psAt p.p k).e.g, .slice a7 (psAt p.p k).b.r.length c7, .int .i64 (psAt p.p k).b.q, .int .i64 (psAt p.p k).b.d, .slice a10 (psAt p.p k).s.length c10, .slice a11 (psAt p.p k).x.length c11]) := by rw [← hW1]; exact Bk.new _ _ _
      have HSt : Hid (IsS W1 (.agg #[.slice a7 (psAt p.p k).b.r.length c7, .int .i64 (psAt p.p k).b.q, .int .i64 (psAt p.p k).b.d]) (psAt p.p k).b) := ⟨_, rfl, (d7.under hB1).isI⟩
      have HSe : Hid (IsEvs W1 (.slice a10 (psAt p.p k).s.length c10) (psAt p.p k).s) := (d10.under hB1).isEvs
      have HEm : Hid (IsX W1 (.slice a11 (psAt p.p k).x.length c11) (psAt p.p k).x) := (d11.under hB1).isX
      have HWk : Hid ((psAt p.p k).b.r.length ≤ 1048576 ∧ (psAt p.p k).s.length ≤ 1048576 ∧ (psAt p.p k).x.length ≤ 1048576) := HWP.out k hlt
      have HBW : Hid (Below W0.heap.size W0 W1) := HB.out.trans (hB1.mono hsr)
      have x7 := HX.out.cell (i := 7) rfl
      have x8 := HX.out.cell (i := 8) rfl
      have x9 := HX.out.cell (i := 9) rfl
      clear hc d7 d10 d11 hB1
      go_wp2_with fail
      clear hW1 x7 x8 x9 f0 f1 f2 f3 f4 f5 f6 f7 f8 f9 f10 f11
      refine (iStOk _ (psAt p.p k).b _ HSt.out).mono ?_
      rintro e w2 ⟨rfl, hb2⟩
      have HB2 : Hid (Below W1.heap.size W1 w2) := hb2
      have HBW2 : Hid (Below W0.heap.size W0 w2) := HBW.out.trans (hb2.mono HBW.out.size)
      have HBw2 : Hid (Below w.heap.size w w2) := HB0.out.trans (HBW2.out.mono (by omega))
      have HX2 : Hid (Bk w2 wr.heap.size 147 #[.int .i64 (psAt p.p k).e.t, .int .i64 (psAt p.p k).e.s, .int .i64 (psAt p.p k).e.q, .int .i64 (psAt p.p k).e.d, .int .i64 (psAt p.p k).e.k, .int .i64 (psAt p.p k).e.v, .int .i64 (psAt p.p k).e.g, .slice a7 (psAt p.p k).b.r.length c7, .int .i64 (psAt p.p k).b.q, .int .i64 (psAt p.p k).b.d, .slice a10 (psAt p.p k).s.length c10, .slice a11 (psAt p.p k).x.length c11]) := HX.out.below hb2
      have HP2 := HP0.out.below HBW2.out
      have y0 := HP2.cell (i := 0) rfl
      have x0 := HX2.out.cell (i := 0) rfl
      have x1 := HX2.out.cell (i := 1) rfl
      have x2 := HX2.out.cell (i := 2) rfl
      have x3 := HX2.out.cell (i := 3) rfl
      have x4 := HX2.out.cell (i := 4) rfl
      have x5 := HX2.out.cell (i := 5) rfl
      have x6 := HX2.out.cell (i := 6) rfl
      have x7 := HX2.out.cell (i := 7) rfl
      have x8 := HX2.out.cell (i := 8) rfl
      have x9 := HX2.out.cell (i := 9) rfl
      have x10 := HX2.out.cell (i := 10) rfl
      have x11 := HX2.out.cell (i := 11) rfl
      clear hb2 HP2
      cases hst : (psAt p.p k).b.ok
      · have KS : Hid ((psAt p.p k).b.ok = false) := hst
        clear hst
        go_wp2
        go_ret
        exact ⟨Says.no (fun h => by have := (h k hlt).1; rw [KS.out] at this; cases this), HBw2.out⟩
      have KS : Hid ((psAt p.p k).b.ok = true) := hst
      clear hst
      go_wp2_with fail
      clear x0 x1 x2 x3 x4 x5 x6 x7 x8 x9 x10 x11 y0
      obtain ⟨ea, ec, eb, heq, hbe, hI⟩ := IsEvs.parts (HSe.out.below HB2.out) (by have := HX2.out.lt; omega)
      cases heq
      refine (iSent _ _ a10 c10 eb (psAt p.p k) p.n _ (by have := HWk.out.2.1; omega) hI hbe).mono ?_
      rintro e w3 ⟨⟨bs, rfl, hs⟩, hb3⟩
      have HSs : Hid (bs = true ↔ sentsB p.n (psAt p.p k) = true) := hs
      have HB3 : Hid (Below w2.heap.size w2 w3) := hb3
      have HBW3 : Hid (Below W0.heap.size W0 w3) := HBW2.out.trans (hb3.mono HBW2.out.size)
      have HBw3 : Hid (Below w.heap.size w w3) := HB0.out.trans (HBW3.out.mono (by omega))
      have HX3 : Hid (Bk w3 wr.heap.size 147 #[.int .i64 (psAt p.p k).e.t, .int .i64 (psAt p.p k).e.s, .int .i64 (psAt p.p k).e.q, .int .i64 (psAt p.p k).e.d, .int .i64 (psAt p.p k).e.k, .int .i64 (psAt p.p k).e.v, .int .i64 (psAt p.p k).e.g, .slice a7 (psAt p.p k).b.r.length c7, .int .i64 (psAt p.p k).b.q, .int .i64 (psAt p.p k).b.d, .slice a10 (psAt p.p k).s.length c10, .slice a11 (psAt p.p k).x.length c11]) := HX2.out.below hb3
      have x11 := HX3.out.cell (i := 11) rfl
      clear hs hb3 hI hbe
      cases bs
      · go_wp2
        go_ret
        exact ⟨Says.no (fun h => by have := HSs.out.2 (h k hlt).2.1; cases this), HBw3.out⟩
      have KE : Hid (sentsB p.n (psAt p.p k) = true) := HSs.out.1 rfl
      by_cases h8 : 8 < (psAt p.p k).x.length
      · have h8' : (8 : Int) < ((psAt p.p k).x.length : Int) := by omega
        have KM : Hid (emsB (psAt p.p k).x = false) := by
          show emsB (psAt p.p k).x = false
          unfold emsB
          rw [decide_eq_false (by omega)]
          rfl
        go_wp2
        go_ret
        exact ⟨Says.no (fun h => by have := (h k hlt).2.2; rw [KM.out] at this; cases this), HBw3.out⟩
      have h8' : ¬ (8 : Int) < ((psAt p.p k).x.length : Int) := by omega
      have H8 : Hid ((psAt p.p k).x.length ≤ 8) := by show (psAt p.p k).x.length ≤ 8; omega
      clear h8
      go_wp2_with fail
      clear x11
      refine (iEmits _ (psAt p.p k).x _ (by have := HWk.out.2.2; omega) ((HEm.out.below HB2.out).below HB3.out)).mono ?_
      rintro e w4 ⟨rfl, hb4⟩
      have HBW4 : Hid (Below W0.heap.size W0 w4) := HBW3.out.trans (hb4.mono HBW3.out.size)
      have HBw4 : Hid (Below w.heap.size w w4) := HB0.out.trans (HBW4.out.mono (by omega))
      clear hb4
      cases hem : emsC (psAt p.p k).x
      · have KM : Hid (emsB (psAt p.p k).x = false) := by
          show emsB (psAt p.p k).x = false
          rw [emsB_is, hem, Bool.and_false]
        clear hem
        go_wp2
        go_ret
        exact ⟨Says.no (fun h => by have := (h k hlt).2.2; rw [KM.out] at this; cases this), HBw4.out⟩
      have KM : Hid (emsB (psAt p.p k).x = true) := by
        show emsB (psAt p.p k).x = true
        rw [emsB_is, hem, decide_eq_true H8.out]
        rfl
      clear hem
      go_wp2
      go_roundw
      case rel => exact ⟨k + 1, by omega, by go_num, fun j hj => by
        by_cases e : j = k
        · subst e; exact ⟨KS.out, KE.out, KM.out⟩
        · exact HA.out j (by omega), HBW4.out⟩
      case measure => simp [intOf]; omega
    · go_wp2
      go_ret
      exact ⟨Says.yes (fun j hj => HA.out j (by omega)), HBw.out⟩
end Go.Proofs.YtnlhcdchmgfipaaGreat

/- The copies: l1own, copyOf; marks: markEventS, heldEventS. -/
namespace Go.Proofs.YtnlhcdchmgfipaaGreat
open Go.RowKit

theorem row_empty (w : World) : (w.alloc (.cells #[] 47)).ownsRow w.heap.size 47 7 (.slice (some ⟨w.heap.size, 0, none⟩) 0 0) 0 [] :=
  ⟨rfl, .inr ⟨w.heap.size, 0, #[], rfl, Nat.le_refl _, (MapKept.heap_alloc w _).1, Nat.le_refl _, Nat.zero_le _, rfl, rfl⟩⟩
end Go.Proofs.YtnlhcdchmgfipaaGreat

/- A row of events of one's own, whose places are written; what turns beside it. -/
namespace Go.Proofs.YtnlhcdchmgfipaaGreat
open Go.RowKit

def Row (w : World) (B g cap : Nat) (l : List Ev) : Prop := w.ownsRow B 47 7 (.slice (some ⟨g, 0, none⟩) l.length cap) l.length (cellsL l)
theorem cellsL_set : ∀ (l : List Ev) (i : Nat) (e : Ev), i < l.length →
    (((((((cellsL l).set (i * 7) (.int .i64 e.t)).set (i * 7 + 1) (.int .i64 e.s)).set (i * 7 + 2) (.int .i64 e.q)).set (i * 7 + 3) (.int .i64 e.d)).set (i * 7 + 4) (.int .i64 e.k)).set (i * 7 + 5) (.int .i64 e.v)).set (i * 7 + 6) (.int .i64 e.g) = cellsL (l.set i e)
  | [], _, _, h => by simp at h
  | a :: l, 0, e, _ => by simp [cellsL, Ev.cs]
  | a :: l, i + 1, e, h => by
    have ih := cellsL_set l i e (by simpa using h)
    have hk0 : (i + 1) * 7 = i * 7 + 1 + 1 + 1 + 1 + 1 + 1 + 1 := by omega
    simp only [cellsL, Ev.cs, List.cons_append, List.nil_append, List.set_cons_succ, hk0, ih]
theorem Row.put {w : World} {B g cap : Nat} {l : List Ev} (h : Row w B g cap l) {i : Nat} (hi : i < l.length) (e : Ev) : Row (put7 w g (i * 7) e) B g cap (l.set i e) := by
  have h0 := (World.ownsRow.stored h (i * 7) (.int .i64 e.t)).1
  have h1 := (World.ownsRow.stored h0 (i * 7 + 1) (.int .i64 e.s)).1
  have h2 := (World.ownsRow.stored h1 (i * 7 + 2) (.int .i64 e.q)).1
  have h3 := (World.ownsRow.stored h2 (i * 7 + 3) (.int .i64 e.d)).1
  have h4 := (World.ownsRow.stored h3 (i * 7 + 4) (.int .i64 e.k)).1
  have h5 := (World.ownsRow.stored h4 (i * 7 + 5) (.int .i64 e.v)).1
  have h6 := (World.ownsRow.stored h5 (i * 7 + 6) (.int .i64 e.g)).1
  unfold Row
  rw [List.length_set, ← cellsL_set l i e hi]
  exact h6
theorem Row.lt {w : World} {B g cap : Nat} {l : List Ev} (h : Row w B g cap l) : B ≤ g ∧ g < w.heap.size := World.ownsRow.lt h g rfl
theorem Row.caps {w : World} {B g cap : Nat} {l : List Ev} (h : Row w B g cap l) : l.length ≤ cap ∧ cap ≤ maxLen := by
  obtain ⟨_, ⟨h, _⟩ | ⟨g', cap', cur, e, _, _, h1, h2, _⟩⟩ := h
  · cases h
  · cases e; exact ⟨h1, h2⟩
theorem Row.ev {w : World} {B g cap : Nat} {l : List Ev} (h : Row w B g cap l) {i : Nat} (hi : i < l.length) : Ev.In w g (i * 7) (evAt l i) := by
  have hget : ∀ r, r < 7 → w.cell? ⟨g, i * 7 + r, none⟩ = (evAt l i).cs[r]? := fun r hr => by
    rw [World.ownsRow.cellAt h (i * 7 + r) (by omega), cellsL_get l i r hi hr]
  exact ⟨hget 0 (by omega), hget 1 (by omega), hget 2 (by omega), hget 3 (by omega), hget 4 (by omega), hget 5 (by omega), hget 6 (by omega)⟩
theorem Row.frozen {w : World} {B g cap : Nat} {l : List Ev} (h : Row w B g cap l) (j : Nat) : w.frozen? ⟨g, j, none⟩ = false := World.ownsRow.frozenAt h j
theorem Row.evs {w : World} {B g cap : Nat} {l : List Ev} (h : Row w B g cap l) : EvsAt w g 0 l := ⟨h.lt.2, fun i hi => by rw [Nat.zero_add]; exact h.ev hi⟩
theorem Row.same {w w' : World} {B g cap : Nat} {l : List Ev} (h : Row w B g cap l) (hb : w'.heap[g]? = w.heap[g]?) : Row w' B g cap l := by
  obtain ⟨h0, ⟨h, _⟩ | ⟨g', cap', cur, e, hg, hc, h1, h2, h3, h4⟩⟩ := h
  · cases h
  · cases e; exact ⟨h0, .inr ⟨g, cap, cur, rfl, hg, hb.trans hc, h1, h2, h3, h4⟩⟩
theorem Row.below {w w' : World} {B B' g cap : Nat} {l : List Ev} (h : Row w B g cap l) (hb : Below B' w w') (hB : g < B') : Row w' B g cap l := h.same (hb.block g hB)
theorem Row.base {w : World} {B B' g cap : Nat} {l : List Ev} (h : Row w B g cap l) (hB : B' ≤ g) : Row w B' g cap l := by
  obtain ⟨h0, ⟨h, _⟩ | ⟨g', cap', cur, e, hg, hc, h1, h2, h3, h4⟩⟩ := h
  · cases h
  · cases e; exact ⟨h0, .inr ⟨g, cap, cur, rfl, hB, hc, h1, h2, h3, h4⟩⟩
theorem Row.own {w : World} {B g cap : Nat} {l : List Ev} (h : Row w B g cap l) : OwnEvs B w (.slice (some ⟨g, 0, none⟩) l.length cap) l := OwnEvs.of_row h
theorem Row.drew {w : World} {B g cap : Nat} {l : List Ev} (h : Row w B g cap l) : Row w.drew B g cap l := World.ownsRow.drew h
theorem Row.pop {w : World} {B g cap : Nat} {l : List Ev} {e : Ev} (h : Row w B g cap (l ++ [e])) : Row w B g cap l := by
  unfold Row at h
  rw [List.length_append, List.length_singleton, cellsL_append] at h
  exact ownsRow_pop (cellsL_length l) h

/- All blocks but those of S stay as they were. -/
theorem Turns.put {S : Nat → Prop} {a w : World} (h : Turns S a w) {g : Nat} (hg : S g) (o : Nat) (e : Ev) : Turns S a (put7 w g o e) :=
  ((((((h.setCell (p := ⟨g, o, none⟩) hg _).setCell (p := ⟨g, o + 1, none⟩) hg _).setCell (p := ⟨g, o + 2, none⟩) hg _).setCell (p := ⟨g, o + 3, none⟩) hg _).setCell (p := ⟨g, o + 4, none⟩) hg _).setCell (p := ⟨g, o + 5, none⟩) hg _).setCell (p := ⟨g, o + 6, none⟩) hg _
theorem Turns.row {S : Nat → Prop} {w w' : World} (h : Turns S w w') {B g cap : Nat} {l : List Ev} (hr : Row w B g cap l) (hg : ¬ S g) : Row w' B g cap l := hr.same (h.block g hr.lt.2 hg)
end Go.Proofs.YtnlhcdchmgfipaaGreat

/- Lists that are read, nil or not; the copies of both sides, as rows of one's own. -/
namespace Go.Proofs.YtnlhcdchmgfipaaGreat
open Go.RowKit
def SrcE (w : World) (x : Value) (l : List Ev) : Prop := (x = .slice none 0 0 ∧ l = []) ∨ ∃ b off cap, x = .slice (some ⟨b, off, none⟩) l.length cap ∧ EvsAt w b off l
def OwnR (B : Nat) (w : World) (x : Value) (l : List Ev) : Prop := w.ownsRow B 47 7 x l.length (cellsL l)
theorem SrcE.below {w w' : World} {x : Value} {l : List Ev} (h : SrcE w x l) (hb : Below w.heap.size w w') : SrcE w' x l :=
  h.imp id (fun ⟨b, off, cap, e, h⟩ => ⟨b, off, cap, e, h.below hb h.1⟩)
theorem OwnR.src {B : Nat} {w : World} {x : Value} {l : List Ev} (h : OwnR B w x l) : SrcE w x l := by
  have h' := h
  obtain ⟨_, ⟨e, h0⟩ | ⟨g, cap, cur, rfl, h1⟩⟩ := h
  · exact .inl ⟨e, List.eq_nil_of_length_eq_zero h0⟩
  · exact .inr ⟨g, 0, cap, rfl, Row.evs h'⟩
theorem OwnR.own {B : Nat} {w : World} {x : Value} {l : List Ev} (h : OwnR B w x l) : OwnEvs B w x l := OwnEvs.of_row h
theorem OwnR.rowed {B : Nat} {w : World} {x : Value} {l : List Ev} (h : OwnR B w x l) {n : Nat} (hl : l.length = n + 1) : ∃ g cap, x = .slice (some ⟨g, 0, none⟩) (n + 1) cap ∧ Row w B g cap l := by
  have h' := h
  obtain ⟨_, ⟨e, h0⟩ | ⟨g, cap, cur, rfl, h1⟩⟩ := h
  · omega
  · exact ⟨g, cap, by rw [hl], h'⟩
theorem OwnR.below {B : Nat} {w w' : World} {x : Value} {l : List Ev} (h : OwnR B w x l) (hb : Below w.heap.size w w') : OwnR B w' x l := by
  obtain ⟨h0, ⟨e, h1⟩ | ⟨g, cap, cur, e, hg, hc, h1⟩⟩ := h
  · exact ⟨h0, .inl ⟨e, h1⟩⟩
  · exact ⟨h0, .inr ⟨g, cap, cur, e, hg, (hb.block g (Array.getElem?_eq_some_iff.1 hc).1).trans hc, h1⟩⟩
theorem OwnR.mono {B B' : Nat} {w : World} {x : Value} {l : List Ev} (h : OwnR B w x l) (hB : B' ≤ B) : OwnR B' w x l := by
  obtain ⟨h0, ⟨e, h1⟩ | ⟨g, cap, cur, e, hg, h1⟩⟩ := h
  · exact ⟨h0, .inl ⟨e, h1⟩⟩
  · exact ⟨h0, .inr ⟨g, cap, cur, e, Nat.le_trans hB hg, h1⟩⟩
theorem OwnR.nil (B : Nat) (w : World) : OwnR B w (.slice none 0 0) [] := World.ownsRow_nil w B _ 7
theorem OwnR.evs {B : Nat} {w : World} {x : Value} {l : List Ev} (h : OwnR B w x l) : IsEvs w x l := h.own.isEvs
theorem RowTo.src {w : World} {g : Nat} {l : List Ev} (h : RowTo w g l.length l l.length) : SrcE w (.slice (some ⟨g, 0, none⟩) l.length l.length) l := .inr ⟨g, 0, _, rfl, h.evs⟩

end Go.Proofs.YtnlhcdchmgfipaaGreat

/- The specification's l1find. -/
namespace Go.Proofs.YtnlhcdchmgfipaaGreat
open Go.RowKit

/- The first place of a tag. -/
def FirstAt (l : List Ev) (tag : Int) (i : Nat) : Prop := i < l.length ∧ (evAt l i).g = tag ∧ ∀ j, j < i → (evAt l j).g ≠ tag
def NoTag (l : List Ev) (tag : Int) : Prop := ∀ j, j < l.length → (evAt l j).g ≠ tag
theorem firstAt_or (l : List Ev) (tag : Int) : (∃ i, FirstAt l tag i) ∨ NoTag l tag := by
  have key : ∀ n, n ≤ l.length → (∃ i, FirstAt l tag i) ∨ ∀ j, j < n → (evAt l j).g ≠ tag := by
    intro n
    induction n with
    | zero => intro _; exact .inr (fun j hj => by omega)
    | succ n ih =>
      intro hn
      rcases ih (by omega) with h | h
      · exact .inl h
      · by_cases e : (evAt l n).g = tag
        · exact .inl ⟨n, by omega, e, h⟩
        · exact .inr (fun j hj => by
            by_cases ej : j = n
            · subst ej; exact e
            · exact h j (by omega))
  exact key l.length (Nat.le_refl _)

theorem step_append_own {P : Program} {ops : Array Oper} {o : Oper} {a : Act} {w : World} {K : Act → World → Prop} {Q : Exit → Act → World → Prop} {E : Prop}
    (hg : o.guard = none) (s x : Operand) (t : TypeId) (hop : o.op = Op.call { callee := Callee.builtin Builtin.append, args := #[s, x], argTypes := #[t, t] })
    (base : Nat) (e : TypeId) (i : TypeInfo) (z : Value) (size bytes : Nat) (h1 : P.underlying t = some (.slice e)) (h2 : P.info? e = some i) (h3 : i.zero = some z) (h4 : i.size = size) (h5 : i.bytes = bytes) (h6 : z.cells.size = size) (h7 : 0 < size)
    (v : Value) (n : Nat) (xs : List Value) (hs : a.eval s = v) (hown : w.ownsRow base e size v n xs)
    (ad : Addr) (m c : Nat) (news : List Value) (hx : a.eval x = .slice (some ad) m c) (hn : news.length = m * size) (hc : ∀ j u, news[j]? = some u → w.cell? (ad.add j) = some u) (h1c : ∀ u ∈ news, u.oneCell' = true)
    (b1 : n + m ≤ maxLen) (b2 : (n + m) * bytes ≤ 140737488355328) (hbase : base ≤ w.heap.size)
    (hK : ∀ v' w', w'.ownsRow base e size v' (n + m) (xs ++ news) → w.grownBy w' v.ownBlock → K (a.put o.dst v') w') :
    if Region.wanted o (yielded ops a.tmps) = true then Oper.wp P o a w K Q else E := by
  have hw : Region.wanted o (yielded ops a.tmps) = true := by simp [Region.wanted, hg]
  rw [if_pos hw]
  exact wp_append_own w s x t hop base e i z size bytes h1 h2 h3 h4 h5 h6 h7 v n xs hs hown ad m c news hx hn hc h1c b1 b2 hbase (fun v' w' r1 r2 _ => hK v' w' r1 r2)

theorem EvsAt.take {w : World} {b off : Nat} {l : List Ev} (h : EvsAt w b off l) (k : Nat) : EvsAt w b off (l.take k) :=
  ⟨h.1, fun i hi => by
    have h1 : i < k ∧ i < l.length := by simp at hi; omega
    rw [evAt_take _ _ _ h1.1]; exact h.2 i h1.2⟩
theorem EvsAt.drop {w : World} {b off : Nat} {l : List Ev} (h : EvsAt w b off l) (k : Nat) : EvsAt w b (off + k * 7) (l.drop k) :=
  ⟨h.1, fun i hi => by
    have h1 : k + i < l.length := by simp at hi; omega
    rw [evAt_drop, show off + k * 7 + i * 7 = off + (k + i) * 7 from by omega]; exact h.2 _ h1⟩

theorem row_ge {w : World} {B : Nat} {e : TypeId} {size n : Nat} {v : Value} {xs : List Value} (h : w.ownsRow B e size v n xs) {r : Nat} (hr : v.ownBlock = some r) : B ≤ r := by
  obtain ⟨_, ⟨rfl, _⟩ | ⟨g, cap, cur, rfl, hg, _⟩⟩ := h
  · cases hr
  · cases hr; exact hg
end Go.Proofs.YtnlhcdchmgfipaaGreat

/- The program's doneOf. -/
namespace Go.Proofs.YtnlhcdchmgfipaaGreat
open Go.RowKit
/- A row whose first k elements are l's. -/
def RowK (w : World) (B g n : Nat) (l : List Ev) (k : Nat) : Prop := ∃ cs, w.ownsRow B 47 7 (.slice (some ⟨g, 0, none⟩) n n) n cs ∧ cs.take (k * 7) = cellsL (l.take k)
theorem cellsL_take : ∀ (l : List Ev) (k : Nat), (cellsL l).take (k * 7) = cellsL (l.take k)
  | [], k => by simp [cellsL]
  | e :: l, 0 => by simp [cellsL]
  | e :: l, k + 1 => by
    have h : (k + 1) * 7 = e.cs.length + k * 7 := by simp [Ev.cs]; omega
    simp only [cellsL, List.take_succ_cons]
    rw [h, List.take_length_add_append, cellsL_take l k]
theorem set7_take {cs : List Value} {k : Nat} (hl : k * 7 + 7 ≤ cs.length) (v0 v1 v2 v3 v4 v5 v6 : Value) :
    (((((((cs.set (k * 7) v0).set (k * 7 + 1) v1).set (k * 7 + 2) v2).set (k * 7 + 3) v3).set (k * 7 + 4) v4).set (k * 7 + 5) v5).set (k * 7 + 6) v6).take ((k + 1) * 7) = cs.take (k * 7) ++ [v0, v1, v2, v3, v4, v5, v6] := by
  apply List.ext_getElem?
  intro j
  have hlt : (cs.take (k * 7)).length = k * 7 := by simp; omega
  by_cases h1 : j < k * 7
  · rw [List.getElem?_take_of_lt (by omega), List.getElem?_append_left (by omega), List.getElem?_take_of_lt h1]
    rw [List.getElem?_set_ne (by omega), List.getElem?_set_ne (by omega), List.getElem?_set_ne (by omega), List.getElem?_set_ne (by omega), List.getElem?_set_ne (by omega), List.getElem?_set_ne (by omega), List.getElem?_set_ne (by omega)]
  · rw [List.getElem?_append_right (by omega), hlt]
    obtain ⟨r, rfl⟩ : ∃ r, j = k * 7 + r := ⟨j - k * 7, by omega⟩
    by_cases h2 : r < 7
    · rw [List.getElem?_take_of_lt (by omega), Nat.add_sub_cancel_left]
      match r, h2 with
      | 0, _ => simp [List.getElem?_set]; omega
      | 1, _ => simp [List.getElem?_set]; omega
      | 2, _ => simp [List.getElem?_set]; omega
      | 3, _ => simp [List.getElem?_set]; omega
      | 4, _ => simp [List.getElem?_set]; omega
      | 5, _ => simp [List.getElem?_set]; omega
      | 6, _ => simp [List.getElem?_set]; omega
    · rw [List.getElem?_eq_none (by simp; omega), List.getElem?_eq_none (by simp; omega)]
theorem RowK.put {w : World} {B g n k : Nat} {l : List Ev} (h : RowK w B g n l k) (hk : k < n) (hl : l.length = n) : RowK (put7 w g (k * 7) (evAt l k)) B g n l (k + 1) := by
  obtain ⟨cs, h1, h2⟩ := h
  have hlen : cs.length = n * 7 := h1.1
  have s0 := (World.ownsRow.stored h1 (k * 7) (.int .i64 (evAt l k).t)).1
  have s1 := (World.ownsRow.stored s0 (k * 7 + 1) (.int .i64 (evAt l k).s)).1
  have s2 := (World.ownsRow.stored s1 (k * 7 + 2) (.int .i64 (evAt l k).q)).1
  have s3 := (World.ownsRow.stored s2 (k * 7 + 3) (.int .i64 (evAt l k).d)).1
  have s4 := (World.ownsRow.stored s3 (k * 7 + 4) (.int .i64 (evAt l k).k)).1
  have s5 := (World.ownsRow.stored s4 (k * 7 + 5) (.int .i64 (evAt l k).v)).1
  have s6 := (World.ownsRow.stored s5 (k * 7 + 6) (.int .i64 (evAt l k).g)).1
  refine ⟨_, s6, ?_⟩
  rw [set7_take (by omega), h2]
  have e : l.take (k + 1) = l.take k ++ [evAt l k] := by
    rw [List.take_add_one, List.getElem?_eq_getElem (by omega)]
    simp [evAt, show k < l.length by omega]
  rw [e, cellsL_append]
  rfl
theorem RowK.cells {w : World} {B g n k : Nat} {l : List Ev} (h : RowK w B g n l k) (hk : k < n) : ∃ c0 c1 c2 c3 c4 c5 c6, (w.cell? ⟨g, k * 7, none⟩ = some c0 ∧ w.cell? ⟨g, k * 7 + 1, none⟩ = some c1 ∧ w.cell? ⟨g, k * 7 + 2, none⟩ = some c2 ∧ w.cell? ⟨g, k * 7 + 3, none⟩ = some c3 ∧ w.cell? ⟨g, k * 7 + 4, none⟩ = some c4 ∧ w.cell? ⟨g, k * 7 + 5, none⟩ = some c5 ∧ w.cell? ⟨g, k * 7 + 6, none⟩ = some c6) ∧ ∀ j, w.frozen? ⟨g, j, none⟩ = false := by
  obtain ⟨cs, h1, h2⟩ := h
  have hlen : cs.length = n * 7 := h1.1
  have hh : ∀ r, r < 7 → ∃ c, w.cell? ⟨g, k * 7 + r, none⟩ = some c := fun r hr => ⟨_, (World.ownsRow.cellAt h1 (k * 7 + r) (by omega)).trans (List.getElem?_eq_getElem (by omega))⟩
  obtain ⟨c0, g0⟩ := hh 0 (by omega)
  obtain ⟨c1, g1⟩ := hh 1 (by omega)
  obtain ⟨c2, g2⟩ := hh 2 (by omega)
  obtain ⟨c3, g3⟩ := hh 3 (by omega)
  obtain ⟨c4, g4⟩ := hh 4 (by omega)
  obtain ⟨c5, g5⟩ := hh 5 (by omega)
  obtain ⟨c6, g6⟩ := hh 6 (by omega)
  exact ⟨c0, c1, c2, c3, c4, c5, c6, ⟨g0, g1, g2, g3, g4, g5, g6⟩, fun j => World.ownsRow.frozenAt h1 j⟩
theorem RowK.below {w w' : World} {B g n k : Nat} {l : List Ev} (h : RowK w B g n l k) (hb : Below w.heap.size w w') : RowK w' B g n l k := by
  obtain ⟨cs, h1, h2⟩ := h
  obtain ⟨h0, ⟨e, h1⟩ | ⟨g', cap, cur, e, hg, hc, h1⟩⟩ := h1
  · exact ⟨cs, ⟨h0, .inl ⟨e, h1⟩⟩, h2⟩
  · exact ⟨cs, ⟨h0, .inr ⟨g', cap, cur, e, hg, (hb.block g' (Array.getElem?_eq_some_iff.1 hc).1).trans hc, h1⟩⟩, h2⟩
theorem RowK.all {w : World} {B g n : Nat} {l : List Ev} (h : RowK w B g n l n) (hl : l.length = n) : OwnR B w (.slice (some ⟨g, 0, none⟩) n n) l := by
  obtain ⟨cs, h1, h2⟩ := h
  have hlen : cs.length = n * 7 := h1.1
  rw [List.take_of_length_le (by omega), List.take_of_length_le (by omega)] at h2
  unfold OwnR
  rw [hl, ← h2]
  exact h1
theorem RowK.lt {w : World} {B g n k : Nat} {l : List Ev} (h : RowK w B g n l k) : B ≤ g ∧ g < w.heap.size := by
  obtain ⟨cs, h1, _⟩ := h
  exact World.ownsRow.lt h1 g rfl
set_option maxRecDepth 100000 in
set_option maxHeartbeats 8000000 in
theorem iDone (x : Value) (p : Pa) (w : World) (hw : p.wt ≤ 1048576) (h : IsPart w x p) :
    Calls Tryz.prog 173 #[x] w fun e w' => ∃ y, e = .returned y ∧ OwnR w.heap.size w' y p.es ∧ Below w.heap.size w w' := by
  obtain ⟨v1, v4, v5, v6, rfl, h1, h4, h5, h6⟩ := h
  have hpl : p.p.length ≤ 1048576 := by have := pastsD_wt p.p; unfold Pa.wt at hw; omega
  obtain ⟨pa, pc, rfl, _, _, h4⟩ := IsD.parts (c := 12) (n := p.p.length) h4
  have H4 : Hid (p.p.length = 0 ∨ ∃ b off, pa = some ⟨b, off, none⟩ ∧ b < w.heap.size ∧ ∀ j, j < p.p.length * 12 → ∃ u, w.cell? ⟨b, off + j, none⟩ = some u ∧ IsD w u (pastsD_f p.p j)) := h4
  clear h1 h4 h5 h6 hw
  have hp : (0 : Int) ≤ (p.p.length : Int) := by omega
  obtain ⟨i0, hi, hz0, hz1, hz2⟩ := info_parts info25
  obtain ⟨W0, hW0⟩ : ∃ W0, w.alloc (.cells #[.int .i64 p.n, v1, .int .i64 p.st.q, .int .i64 p.st.d, .slice pa p.p.length pc, v5, v6] 88) = W0 := ⟨_, rfl⟩
  have HB0 : Hid (Below w.heap.size w W0) := by rw [← hW0]; exact (Below.refl _ w).alloc (Nat.le_refl _) _
  have HP0 : Hid (Bk W0 w.heap.size 88 #[.int .i64 p.n, v1, .int .i64 p.st.q, .int .i64 p.st.d, .slice pa p.p.length pc, v5, v6]) := by rw [← hW0]; exact Bk.new w _ _
  have hs0 : w.heap.size < W0.heap.size := HP0.out.lt
  have p4 := HP0.out.cell (i := 4) rfl
  go_enter Tryz.func173, Tryz.ntmps173
  go_wp2_with (at_make; refine wpList_make_full _ rfl _ _ 35 rfl W0.heap.size 47 i0 _ 7 Tryz.underlying35 hi hz0 hz1 .i64 .i64 p.p.length p.p.length p.p.length rfl rfl rfl rfl (by rw [hz2]; omega) (by unfold maxLen; omega) (Nat.le_refl _) ?_; intro w1 hown hgrow; have hb1 : Below W0.heap.size W0 w1 := (Below.refl _ _).grown hgrow (Nat.le_refl _) (fun k e => by cases e); have hR1 : RowK w1 W0.heap.size W0.heap.size p.p.length p.es 0 := ⟨_, hown, by simp [cellsL]⟩; have q4 := (HP0.out.below hb1).cell (i := 4) rfl; have HB1 : Hid (Below W0.heap.size W0 w1) := hb1; have HR1 : Hid (RowK w1 W0.heap.size W0.heap.size p.p.length p.es 0) := hR1; clear hown hgrow hb1 hR1)
  clear p4 q4 hW0 hi hz0 hz1 hz2
  go_loopw [13] (fun i wr => ∃ k : Nat, k ≤ p.p.length ∧ i = .int .i64 k ∧ Below W0.heap.size W0 wr ∧ RowK wr W0.heap.size W0.heap.size p.p.length p.es k) (fun i _ => p.p.length - (intOf i).toNat)
  case atStart => exact ⟨0, Nat.zero_le _, rfl, HB1.out, HR1.out⟩
  case round =>
    clear HB1 HR1
    obtain ⟨k, hk, rfl, hB, hR⟩ := hrel
    have HB : Hid (Below W0.heap.size W0 wr) := hB
    have HBw : Hid (Below w.heap.size w wr) := HB0.out.trans (hB.mono (by omega))
    have HR : Hid (RowK wr W0.heap.size W0.heap.size p.p.length p.es k) := hR
    have hsr : W0.heap.size < wr.heap.size := hR.lt.2
    clear hB hR
    by_cases hlt : k < p.p.length
    · obtain ⟨b, off, rfl, hb, hc⟩ := H4.out.resolve_left (by omega)
      obtain ⟨ua, ub, uc, f0, f1, f2, f3, f4, f5, f6, f7, f8, f9, f10, f11, d7, d10, d11⟩ := pastsD_in (l := p.p) (n := p.p.length) (fun j hj => by
        obtain ⟨u, hu, hd⟩ := hc j hj
        exact ⟨u, (HBw.out.cell (p := ⟨b, off + j, none⟩) hb).trans hu, hd.under HBw.out⟩) hlt
      obtain ⟨a7, c7, rfl, _⟩ := IsD.len (c := 1) (n := (psAt p.p k).b.r.length) d7
      obtain ⟨a10, c10, rfl, _⟩ := IsD.len (c := 7) (n := (psAt p.p k).s.length) d10
      obtain ⟨a11, c11, rfl, _⟩ := IsD.len (c := 3) (n := (psAt p.p k).x.length) d11
      have hki : (k : Int) < (p.p.length : Int) := by omega
      obtain ⟨W1, hW1⟩ : ∃ W1, wr.alloc (.cells #[.int .i64 (psAt p.p k).e.t, .int .i64 (psAt p.p k).e.s, .int .i64 (psAt p.p k).e.q, .int .i64 (psAt p.p k).e.d, .int .i64 (psAt p.p k).e.k, .int .i64 (psAt p.p k).e.v, .int .i64 (psAt p.p k).e.g, .slice a7 (psAt p.p k).b.r.length c7, .int .i64 (psAt p.p k).b.q, .int .i64 (psAt p.p k).b.d, .slice a10 (psAt p.p k).s.length c10, .slice a11 (psAt p.p k).x.length c11] 147) = W1 := ⟨_, rfl⟩
      have hB1 : Below wr.heap.size wr W1 := by rw [← hW1]; exact (Below.refl _ wr).alloc (Nat.le_refl _) _
      have HB1 : Hid (Below wr.heap.size wr W1) := hB1
      have HX : Bk W1 wr.heap.size 147 #[.int .i64 (psAt p.p k).e.t, .int .i64 (psAt p.p k).e.s, .int .i64 (psAt p.p k).e.q, .int .i64 (psAt p.p k).e.d, .int .i64 (psAt p.p k).e.k, .int .i64 (psAt p.p k).e.v, .int .i64 (psAt p.p k).e.g, .slice a7 (psAt p.p k).b.r.length c7, .int .i64 (psAt p.p k).b.q, .int .i64 (psAt p.p k).b.d, .slice a10 (psAt p.p k).s.length c10, .slice a11 (psAt p.p k).x.length c11] := by rw [← hW1]; exact Bk.new _ _ _
      have HR1 : Hid (RowK W1 W0.heap.size W0.heap.size p.p.length p.es k) := HR.out.below hB1
      have x0 := HX.cell (i := 0) rfl
      have x1 := HX.cell (i := 1) rfl
      have x2 := HX.cell (i := 2) rfl
      have x3 := HX.cell (i := 3) rfl
      have x4 := HX.cell (i := 4) rfl
      have x5 := HX.cell (i := 5) rfl
      have x6 := HX.cell (i := 6) rfl
      obtain ⟨c0', c1', c2', c3', c4', c5', c6', ⟨g0, g1, g2, g3, g4, g5, g6⟩, gf⟩ := HR1.out.cells hlt
      have z0 := gf (k * 7)
      have z1 := gf (k * 7 + 1)
      have z2 := gf (k * 7 + 2)
      have z3 := gf (k * 7 + 3)
      have z4 := gf (k * 7 + 4)
      have z5 := gf (k * 7 + 5)
      have z6 := gf (k * 7 + 6)
      clear hc d7 d10 d11 hB1 HX gf
      go_wp2
      go_roundw
      case rel =>
        have hp7 := HR1.out.put hlt (es_length p)
        rw [es_at p hlt] at hp7
        have hbb : Below W0.heap.size W0 W1 := HB.out.trans (HB1.out.mono (by omega))
        exact ⟨k + 1, by omega, by go_num, put7_below hbb (Nat.le_refl _) _ _, hp7⟩
      case measure => simp [intOf]; omega
    · have he : k = p.p.length := by omega
      have HRe : Hid (RowK wr W0.heap.size W0.heap.size p.p.length p.es p.p.length) := by
        have h9 := HR.out
        rw [he] at h9
        exact h9
      go_wp2
      go_ret
      exact ⟨_, rfl, (HRe.out.all (es_length p)).mono (by omega), HBw.out⟩
end Go.Proofs.YtnlhcdchmgfipaaGreat

/- The program's doings. -/
namespace Go.Proofs.YtnlhcdchmgfipaaGreat
open Go.RowKit
theorem run_append_zero {P : Program} {w : World} (base : Nat) (t ty e : TypeId) (i : TypeInfo) (size : Nat) (ht : P.underlying t = some (.slice e)) (hi : P.info? e = some i)
    (v : Value) (n c : Nat) (xs : List Value) (hown : w.ownsRow base e size v n xs) :
    (Builtin.append_ #[t, t] ty #[v, .slice none 0 c]).run P w = .ok v w := by
  rcases hown.2 with ⟨rfl, rfl⟩ | ⟨g, cap, cur, rfl, _, _, hnc, _⟩
  · simp [Builtin.append_, run_underlying ht, sizeOf, typeInfo, hi, Builtin.lenOf, Builtin.firstCells]
  · simp [Builtin.append_, run_underlying ht, sizeOf, typeInfo, hi, Builtin.lenOf, Builtin.firstCells, hnc, storeCells]
theorem step_append_zero {P : Program} {ops : Array Oper} {o : Oper} {a : Act} {w : World} {K : Act → World → Prop} {Q : Exit → Act → World → Prop} {E : Prop}
    (hg : o.guard = none) (s x : Operand) (t : TypeId) (hop : o.op = Op.call { callee := Callee.builtin Builtin.append, args := #[s, x], argTypes := #[t, t] })
    (base : Nat) (e : TypeId) (i : TypeInfo) (size : Nat) (h1 : P.underlying t = some (.slice e)) (h2 : P.info? e = some i)
    (v : Value) (n c : Nat) (xs : List Value) (hs : a.eval s = v) (hown : w.ownsRow base e size v n xs) (hx : a.eval x = .slice none 0 c)
    (hK : K (a.put o.dst v) w) :
    if Region.wanted o (yielded ops a.tmps) = true then Oper.wp P o a w K Q else E := by
  have hw : Region.wanted o (yielded ops a.tmps) = true := by simp [Region.wanted, hg]
  rw [if_pos hw]
  have hrun := run_append_zero (P := P) (w := w) base t o.type e i size h1 h2 v n c xs hown
  unfold Oper.wp
  simp [execOp, hop, resolve, invoke, builtin, hs, hx, hrun, Result.andThen]
  exact hK
theorem off_grown {w w' : World} {P : Nat} {T : TypeId} {vs : Array Value} {row : Option Nat} (h : Bk w P T vs) (hg : w.grownBy w' row) (hne : row = some P → False) : Bk w' P T vs :=
  (hg.block P h.lt (fun e => hne e.symm)).trans h
set_option maxRecDepth 100000 in
set_option maxHeartbeats 8000000 in
theorem iDoings (x : Value) (p : Pa) (w : World) (hw : p.wt ≤ 1048576) (h : IsPart w x p) :
    Calls Tryz.prog 129 #[x] w fun e w' => ∃ y, e = .returned y ∧ OwnR w.heap.size w' y p.all ∧ Below w.heap.size w w' := by
  have HI : Hid (IsPart w x p) := h
  obtain ⟨v1, v4, v5, v6, rfl, h1, h4, h5, h6⟩ := h
  have hwt := hw
  unfold Pa.wt at hwt
  simp only [ints_wt, evs_wt] at hwt
  have hel : p.es.length ≤ 1048576 := by rw [es_length]; have := pastsD_wt p.p; omega
  have htl : p.t.length ≤ 1048576 := by omega
  obtain ⟨ta, tc, rfl, _, _, h5⟩ := h5.isEvs
  clear h1 h4 h6 hwt
  obtain ⟨i0, hi, hz0, hz1, hz2⟩ := info_parts info25
  cases ta with
  | none =>
    have ht0 : p.t = [] := h5.resolve_right (by rintro ⟨b, off, e, _⟩; cases e)
    have HT0 : Hid (p.t = []) := ht0
    have HI' : Hid (IsPart w (.agg #[.int .i64 p.n, v1, .int .i64 p.st.q, .int .i64 p.st.d, v4, .slice none 0 tc, v6]) p) := by
      have h9 := HI.out
      rw [ht0] at h9
      exact h9
    clear HI
    have HI := HI'
    rw [ht0]
    clear ht0 h5 HI'
    show Calls Tryz.prog 129 #[.agg #[.int .i64 p.n, v1, .int .i64 p.st.q, .int .i64 p.st.d, v4, .slice none 0 tc, v6]] w _
    obtain ⟨W0, hW0⟩ : ∃ W0, w.alloc (.cells #[.int .i64 p.n, v1, .int .i64 p.st.q, .int .i64 p.st.d, v4, .slice none 0 tc, v6] 88) = W0 := ⟨_, rfl⟩
    have HB0 : Hid (Below w.heap.size w W0) := by rw [← hW0]; exact (Below.refl _ w).alloc (Nat.le_refl _) _
    have HP0 : Hid (Bk W0 w.heap.size 88 #[.int .i64 p.n, v1, .int .i64 p.st.q, .int .i64 p.st.d, v4, .slice none 0 tc, v6]) := by rw [← hW0]; exact Bk.new w _ _
    have hs0 : w.heap.size < W0.heap.size := HP0.out.lt
    have hs0d : w.heap.size ≤ W0.drew.heap.size := Nat.le_of_lt hs0
    have HI0 : Hid (IsPart W0.drew (.agg #[.int .i64 p.n, v1, .int .i64 p.st.q, .int .i64 p.st.d, v4, .slice none 0 tc, v6]) p) := HI.out.under HB0.out.drew
    have HS0 : Hid (W0.drew.cell? ⟨w.heap.size, 0, none⟩ = some (.int .i64 p.n) ∧ W0.drew.cell? ⟨w.heap.size, 1, none⟩ = some (v1) ∧ W0.drew.cell? ⟨w.heap.size, 2, none⟩ = some (.int .i64 p.st.q) ∧ W0.drew.cell? ⟨w.heap.size, 3, none⟩ = some (.int .i64 p.st.d) ∧ W0.drew.cell? ⟨w.heap.size, 4, none⟩ = some (v4) ∧ W0.drew.cell? ⟨w.heap.size, 5, none⟩ = some (.slice none 0 tc) ∧ W0.drew.cell? ⟨w.heap.size, 6, none⟩ = some (v6)) := ⟨HP0.out.drew.cell (i := 0) rfl, HP0.out.drew.cell (i := 1) rfl, HP0.out.drew.cell (i := 2) rfl, HP0.out.drew.cell (i := 3) rfl, HP0.out.drew.cell (i := 4) rfl, HP0.out.drew.cell (i := 5) rfl, HP0.out.drew.cell (i := 6) rfl⟩
    go_enter Tryz.func129, Tryz.ntmps129
    go_wp2
    clear hW0
    go_region_held3 (fun W => W.cell? ⟨w.heap.size, 0, none⟩ = some (.int .i64 p.n) ∧ W.cell? ⟨w.heap.size, 1, none⟩ = some (v1) ∧ W.cell? ⟨w.heap.size, 2, none⟩ = some (.int .i64 p.st.q) ∧ W.cell? ⟨w.heap.size, 3, none⟩ = some (.int .i64 p.st.d) ∧ W.cell? ⟨w.heap.size, 4, none⟩ = some (v4) ∧ W.cell? ⟨w.heap.size, 5, none⟩ = some (.slice none 0 tc) ∧ W.cell? ⟨w.heap.size, 6, none⟩ = some (v6)) (first | exact HS0.out | exact HS2.out | exact HS3.out)
      (first | (go_at_call 173; refine (iDone _ p _ hw HI0.out).mono ?_; rintro e w2 ⟨y, rfl, ho, hb⟩; have HOb : Hid (OwnR W0.heap.size w2 y p.es) := ho; have HO2 : Hid (w2.ownsRow w.heap.size 47 7 y p.es.length (cellsL p.es)) := ho.mono hs0d; have HB2 : Hid (Below w.heap.size w w2) := HB0.out.drew.trans (hb.mono hs0d); have HX2 : Hid (Bk w2 w.heap.size 88 #[.int .i64 p.n, v1, .int .i64 p.st.q, .int .i64 p.st.d, v4, .slice none 0 tc, v6]) := HP0.out.drew.below hb; have HS2 : Hid (w2.cell? ⟨w.heap.size, 0, none⟩ = some (.int .i64 p.n) ∧ w2.cell? ⟨w.heap.size, 1, none⟩ = some (v1) ∧ w2.cell? ⟨w.heap.size, 2, none⟩ = some (.int .i64 p.st.q) ∧ w2.cell? ⟨w.heap.size, 3, none⟩ = some (.int .i64 p.st.d) ∧ w2.cell? ⟨w.heap.size, 4, none⟩ = some (v4) ∧ w2.cell? ⟨w.heap.size, 5, none⟩ = some (.slice none 0 tc) ∧ w2.cell? ⟨w.heap.size, 6, none⟩ = some (v6)) := ⟨HX2.out.cell (i := 0) rfl, HX2.out.cell (i := 1) rfl, HX2.out.cell (i := 2) rfl, HX2.out.cell (i := 3) rfl, HX2.out.cell (i := 4) rfl, HX2.out.cell (i := 5) rfl, HX2.out.cell (i := 6) rfl⟩; have hsz2 : w.heap.size ≤ w2.heap.size := HB2.out.size; clear ho hb) | (refine step_append_zero (w := w2) rfl (.tmp 4) (.tmp 6) 35 rfl w.heap.size 47 i0 7 Tryz.underlying35 hi y p.es.length tc (cellsL p.es) rfl HO2.out rfl ?_))
    go_wp2
    go_ret
    exact ⟨_, rfl, by unfold OwnR Pa.all; rw [HT0.out, List.append_nil]; exact HO2.out, HB2.out⟩
  | some ad =>
    have HC : Hid (∀ w2, Below w.heap.size w w2 → ∀ j u, (cellsL p.t)[j]? = some u → w2.cell? (ad.add j) = some u) := by
      rcases h5 with e | ⟨b, off, e, hI⟩
      · intro w2 _ j u hu
        rw [e] at hu
        simp [cellsL] at hu
      · cases e
        exact fun w2 hb => (hI.below hb hI.1).cells
    clear h5
    obtain ⟨W0, hW0⟩ : ∃ W0, w.alloc (.cells #[.int .i64 p.n, v1, .int .i64 p.st.q, .int .i64 p.st.d, v4, .slice (some ad) p.t.length tc, v6] 88) = W0 := ⟨_, rfl⟩
    have HB0 : Hid (Below w.heap.size w W0) := by rw [← hW0]; exact (Below.refl _ w).alloc (Nat.le_refl _) _
    have HP0 : Hid (Bk W0 w.heap.size 88 #[.int .i64 p.n, v1, .int .i64 p.st.q, .int .i64 p.st.d, v4, .slice (some ad) p.t.length tc, v6]) := by rw [← hW0]; exact Bk.new w _ _
    have hs0 : w.heap.size < W0.heap.size := HP0.out.lt
    have hs0d : w.heap.size ≤ W0.drew.heap.size := Nat.le_of_lt hs0
    have HI0 : Hid (IsPart W0.drew (.agg #[.int .i64 p.n, v1, .int .i64 p.st.q, .int .i64 p.st.d, v4, .slice (some ad) p.t.length tc, v6]) p) := HI.out.under HB0.out.drew
    have HS0 : Hid (W0.drew.cell? ⟨w.heap.size, 0, none⟩ = some (.int .i64 p.n) ∧ W0.drew.cell? ⟨w.heap.size, 1, none⟩ = some (v1) ∧ W0.drew.cell? ⟨w.heap.size, 2, none⟩ = some (.int .i64 p.st.q) ∧ W0.drew.cell? ⟨w.heap.size, 3, none⟩ = some (.int .i64 p.st.d) ∧ W0.drew.cell? ⟨w.heap.size, 4, none⟩ = some (v4) ∧ W0.drew.cell? ⟨w.heap.size, 5, none⟩ = some (.slice (some ad) p.t.length tc) ∧ W0.drew.cell? ⟨w.heap.size, 6, none⟩ = some (v6)) := ⟨HP0.out.drew.cell (i := 0) rfl, HP0.out.drew.cell (i := 1) rfl, HP0.out.drew.cell (i := 2) rfl, HP0.out.drew.cell (i := 3) rfl, HP0.out.drew.cell (i := 4) rfl, HP0.out.drew.cell (i := 5) rfl, HP0.out.drew.cell (i := 6) rfl⟩
    go_enter Tryz.func129, Tryz.ntmps129
    go_wp2
    clear hW0
    go_region_held3 (fun W => W.cell? ⟨w.heap.size, 0, none⟩ = some (.int .i64 p.n) ∧ W.cell? ⟨w.heap.size, 1, none⟩ = some (v1) ∧ W.cell? ⟨w.heap.size, 2, none⟩ = some (.int .i64 p.st.q) ∧ W.cell? ⟨w.heap.size, 3, none⟩ = some (.int .i64 p.st.d) ∧ W.cell? ⟨w.heap.size, 4, none⟩ = some (v4) ∧ W.cell? ⟨w.heap.size, 5, none⟩ = some (.slice (some ad) p.t.length tc) ∧ W.cell? ⟨w.heap.size, 6, none⟩ = some (v6)) (first | exact HS0.out | exact HS2.out | exact HS3.out)
      (first | (go_at_call 173; refine (iDone _ p _ hw HI0.out).mono ?_; rintro e w2 ⟨y, rfl, ho, hb⟩; have HOb : Hid (OwnR W0.heap.size w2 y p.es) := ho; have HO2 : Hid (w2.ownsRow w.heap.size 47 7 y p.es.length (cellsL p.es)) := ho.mono hs0d; have HB2 : Hid (Below w.heap.size w w2) := HB0.out.drew.trans (hb.mono hs0d); have HX2 : Hid (Bk w2 w.heap.size 88 #[.int .i64 p.n, v1, .int .i64 p.st.q, .int .i64 p.st.d, v4, .slice (some ad) p.t.length tc, v6]) := HP0.out.drew.below hb; have HS2 : Hid (w2.cell? ⟨w.heap.size, 0, none⟩ = some (.int .i64 p.n) ∧ w2.cell? ⟨w.heap.size, 1, none⟩ = some (v1) ∧ w2.cell? ⟨w.heap.size, 2, none⟩ = some (.int .i64 p.st.q) ∧ w2.cell? ⟨w.heap.size, 3, none⟩ = some (.int .i64 p.st.d) ∧ w2.cell? ⟨w.heap.size, 4, none⟩ = some (v4) ∧ w2.cell? ⟨w.heap.size, 5, none⟩ = some (.slice (some ad) p.t.length tc) ∧ w2.cell? ⟨w.heap.size, 6, none⟩ = some (v6)) := ⟨HX2.out.cell (i := 0) rfl, HX2.out.cell (i := 1) rfl, HX2.out.cell (i := 2) rfl, HX2.out.cell (i := 3) rfl, HX2.out.cell (i := 4) rfl, HX2.out.cell (i := 5) rfl, HX2.out.cell (i := 6) rfl⟩; have hsz2 : w.heap.size ≤ w2.heap.size := HB2.out.size; have HC2 : Hid (∀ j u, (cellsL p.t)[j]? = some u → w2.cell? (ad.add j) = some u) := HC.out w2 HB2.out; clear ho hb) | (refine step_append_own (w := w2) rfl (.tmp 4) (.tmp 6) 35 rfl w.heap.size 47 i0 _ 7 56 Tryz.underlying35 hi hz0 hz1 hz2 rfl (by decide) y p.es.length (cellsL p.es) rfl HO2.out ad p.t.length tc (cellsL p.t) rfl (cellsL_length p.t) HC2.out (cellsL_one p.t) (by unfold maxLen; omega) (by omega) hsz2 ?_; intro y3 w3 hown3 hgrow3; have HO3 : Hid (w3.ownsRow w.heap.size 47 7 y3 (p.es.length + p.t.length) (cellsL p.es ++ cellsL p.t)) := hown3; have HB3 : Hid (Below w.heap.size w w3) := HB2.out.grown hgrow3 hsz2 (fun k e => row_ge HO2.out e); have HX3 : Bk w3 w.heap.size 88 #[.int .i64 p.n, v1, .int .i64 p.st.q, .int .i64 p.st.d, v4, .slice (some ad) p.t.length tc, v6] := off_grown HX2.out hgrow3 (fun e => Nat.lt_irrefl _ (Nat.lt_of_lt_of_le hs0 (row_ge HOb.out e))); have HS3 : Hid (w3.cell? ⟨w.heap.size, 0, none⟩ = some (.int .i64 p.n) ∧ w3.cell? ⟨w.heap.size, 1, none⟩ = some (v1) ∧ w3.cell? ⟨w.heap.size, 2, none⟩ = some (.int .i64 p.st.q) ∧ w3.cell? ⟨w.heap.size, 3, none⟩ = some (.int .i64 p.st.d) ∧ w3.cell? ⟨w.heap.size, 4, none⟩ = some (v4) ∧ w3.cell? ⟨w.heap.size, 5, none⟩ = some (.slice (some ad) p.t.length tc) ∧ w3.cell? ⟨w.heap.size, 6, none⟩ = some (v6)) := ⟨HX3.cell (i := 0) rfl, HX3.cell (i := 1) rfl, HX3.cell (i := 2) rfl, HX3.cell (i := 3) rfl, HX3.cell (i := 4) rfl, HX3.cell (i := 5) rfl, HX3.cell (i := 6) rfl⟩; clear hown3 hgrow3 HX3))
    go_wp2
    go_ret
    exact ⟨_, rfl, by unfold OwnR Pa.all; rw [cellsL_append, List.length_append]; exact HO3.out, HB3.out⟩
end Go.Proofs.YtnlhcdchmgfipaaGreat

