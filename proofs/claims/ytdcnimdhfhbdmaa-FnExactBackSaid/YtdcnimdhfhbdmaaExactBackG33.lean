/- PDr, PDo, PCr, PDw -/
import Derived.Test.YtdcnimdhfhbdmaaExactBackG28
import Derived.Test.YtdcnimdhfhbdmaaExactBackG03
import Derived.BigRegion
import Derived.Test.YtdcnimdhfhbdmaaExactBackG31
import Derived.Test.YtdcnimdhfhbdmaaExactBackG30
/- slices.Reverse over events. -/
namespace Go.Proofs.Ytdcnimdhfhbdmaa
open Go.RowKit
theorem rowCells7 {w : World} {B g cap : Nat} {l : List Ev} (h : Row w B g cap l) {i : Nat} (hi : i < l.length) :
  (w.cell? ⟨g, i * 7, none⟩ = some (.int .i64 (evAt l i).t) ∧ w.cell? ⟨g, i * 7 + 1, none⟩ = some (.int .i64 (evAt l i).s) ∧ w.cell? ⟨g, i * 7 + 2, none⟩ = some (.int .i64 (evAt l i).q) ∧ w.cell? ⟨g, i * 7 + 3, none⟩ = some (.int .i64 (evAt l i).d) ∧ w.cell? ⟨g, i * 7 + 4, none⟩ = some (.int .i64 (evAt l i).k) ∧ w.cell? ⟨g, i * 7 + 5, none⟩ = some (.int .i64 (evAt l i).v) ∧ w.cell? ⟨g, i * 7 + 6, none⟩ = some (.int .i64 (evAt l i).g)) ∧
  (w.frozen? ⟨g, i * 7, none⟩ = false ∧ w.frozen? ⟨g, i * 7 + 1, none⟩ = false ∧ w.frozen? ⟨g, i * 7 + 2, none⟩ = false ∧ w.frozen? ⟨g, i * 7 + 3, none⟩ = false ∧ w.frozen? ⟨g, i * 7 + 4, none⟩ = false ∧ w.frozen? ⟨g, i * 7 + 5, none⟩ = false ∧ w.frozen? ⟨g, i * 7 + 6, none⟩ = false) :=
 ⟨⟨(h.ev hi).f0, (h.ev hi).f1, (h.ev hi).f2, (h.ev hi).f3, (h.ev hi).f4, (h.ev hi).f5, (h.ev hi).f6⟩, ⟨h.frozen _, h.frozen _, h.frozen _, h.frozen _, h.frozen _, h.frozen _, h.frozen _⟩⟩
theorem rowSwap {w : World} {B g cap : Nat} {l : List Ev} (h : Row w B g cap l) {i k : Nat} (hi : i < l.length) (hk : k < l.length) : Row (put7 (put7 w g (i * 7) (evAt l k)) g (k * 7) (evAt l i)) B g cap (swp l i k) :=
 (h.put hi (evAt l k)).put (by simpa using hk) (evAt l i)
/- The first m and the last m have changed their places. -/
def RevAt (l lm : List Ev) (m : Nat) : Prop := lm.length = l.length ∧ ∀ j, j < l.length → evAt lm j = if j < m ∨ l.length - m ≤ j then evAt l (l.length - 1 - j) else evAt l j
theorem RevAt.step {l lm : List Ev} {m : Nat} (h : RevAt l lm m) (hm : m < l.length - 1 - m) : RevAt l (swp lm m (l.length - 1 - m)) (m + 1) := by
 obtain ⟨hl, h⟩ := h
 refine ⟨by rw [swp_length, hl], fun j hj => ?_⟩
 rw [evAt_swp _ _ _ _ (by omega) (by omega)]
 by_cases e1 : l.length - 1 - m = j
 ·rw [if_pos e1, h m (by omega), if_neg (by omega), if_pos (by omega)]
  congr 1
  omega
 ·rw [if_neg e1]
  by_cases e2 : m = j
  ·rw [if_pos e2, h (l.length - 1 - m) (by omega), if_neg (by omega), if_pos (by omega), e2]
  ·rw [if_neg e2, h j hj]
   by_cases e3 : j < m ∨ l.length - m ≤ j
   ·rw [if_pos e3, if_pos (by omega)]
   ·rw [if_neg e3, if_neg (by omega)]
theorem evAt_rev (l : List Ev) {j : Nat} (h : j < l.length) : evAt l.reverse j = evAt l (l.length - 1 - j) := by
 unfold evAt
 rw [List.getD_eq_getElem?_getD, List.getD_eq_getElem?_getD, List.getElem?_reverse h]
theorem RevAt.done {l lm : List Ev} {m : Nat} (h : RevAt l lm m) (hm : ¬ m < l.length - 1 - m) : lm = l.reverse := by
 obtain ⟨hl, h⟩ := h
 refine ext_ev (by rw [hl, List.length_reverse]) (fun j hj => ?_)
 rw [hl] at hj
 rw [evAt_rev l hj, h j hj]
 by_cases e : j < m ∨ l.length - m ≤ j
 ·rw [if_pos e]
 ·rw [if_neg e]
  congr 1
  omega
set_option maxRecDepth 100000 in
set_option maxHeartbeats 16000000 in
theorem rev_any (B : Nat) (v : Value) (l : List Ev) (w : World) (hl : l.length ≤ 1048577) (h : w.ownsRow B 40 7 v l.length (cellsL l)) :
  Calls Try.prog 96 #[v] w fun r w' => (∃ u, r = .returned u) ∧ w'.ownsRow B 40 7 v l.reverse.length (cellsL l.reverse) ∧ Turns (fun k => v.ownBlock = some k) w w' := by
 by_cases h0 : l.length = 0
 ·obtain rfl : l = [] := List.eq_nil_of_length_eq_zero h0
  obtain ⟨a, cap, rfl⟩ := owns_slice h
  have HH : Hid (w.ownsRow B 40 7 (.slice a ([] : List Ev).length cap) ([] : List Ev).length (cellsL [])) := h
  clear h h0 hl
  go_enter Try.func96, Try.ntmps96
  go_wp2
  go_loopw [2, 3] (fun i j wr => i = .int .i64 0 ∧ j = .int .i64 (-1) ∧ wr = w) (fun _ _ _ => 0)
  case atStart => exact ⟨rfl, rfl, rfl⟩
  case round =>
   obtain ⟨rfl, rfl, rfl⟩ := hrel
   go_wp2
   go_end0
   exact ⟨⟨_, rfl⟩, HH.out, Turns.refl _ _⟩
 ·obtain ⟨g, cap, rfl⟩ : ∃ g cap, v = .slice (some ⟨g, 0, none⟩) l.length cap := by
   obtain ⟨_, ⟨_, h1⟩ | ⟨g, cap, cur, e, _⟩⟩ := h
   ·exact absurd h1 h0
   ·exact ⟨g, cap, e⟩
  have HR : Hid (Row w B g cap l) := h
  have hn : 1 ≤ (l.length : Int) := by omega
  clear h
  go_enter Try.func96, Try.ntmps96
  go_wp2
  go_loopw [2, 3] (fun i j wr => ∃ (m : Nat) (lm : List Ev), i = .int .i64 (m : Int) ∧ j = .int .i64 ((l.length : Int) - 1 - (m : Int)) ∧ 2 * m ≤ l.length ∧ Hid (RevAt l lm m) ∧ Hid (Row wr B g cap lm) ∧ Hid (Turns (fun k => k = g) w wr)) (fun i _ _ => l.length - (intOf i).toNat)
  case atStart => exact ⟨0, l, rfl, by simp, by omega, ⟨rfl, fun j hj => by rw [if_neg (by omega)]⟩, HR.out, Turns.refl _ _⟩
  case round =>
   clear HR
   obtain ⟨m, lm, rfl, rfl, hm2, HV, HR, HT⟩ := hrel
   have hll : lm.length ≤ l.length ∧ l.length ≤ lm.length := by have := HV.out.1; omega
   by_cases hlt : m < l.length - 1 - m
   ·obtain ⟨k, hk⟩ : ∃ k, l.length - 1 - m = k := ⟨_, rfl⟩
    have HK : Hid (l.length - 1 - m = k) := hk
    have hi : m < lm.length := by omega
    have hk2 : k < lm.length := by omega
    obtain ⟨⟨f0, f1, f2, f3, f4, f5, f6⟩, ⟨z0, z1, z2, z3, z4, z5, z6⟩⟩ := rowCells7 HR.out hi
    obtain ⟨⟨e0, e1, e2, e3, e4, e5, e6⟩, ⟨y0, y1, y2, y3, y4, y5, y6⟩⟩ := rowCells7 HR.out hk2
    have hkz : (l.length : Int) - 1 - (m : Int) = (k : Int) := by omega
    have hi1 : (m : Int) < (l.length : Int) := by omega
    have hk1 : (k : Int) < (l.length : Int) := by omega
    have hmk : (m : Int) < (k : Int) := by omega
    have hmk' : m < k := by omega
    have hkn : ¬ k = m := by omega
    have hgw : g < wr.heap.size := HR.out.lt.2
    clear hk
    rw [hkz]
    clear hkz
    go_wp2_with fail
    go_big_region
    go_wp2
    go_roundw
    case rel =>
     refine ⟨m + 1, swp lm m k, by go_num, by rw [show (l.length : Int) - 1 - ((m + 1 : Nat) : Int) = (k : Int) - 1 from by have := HK.out; omega], by omega, by rw [← HK.out]; exact HV.out.step hlt, (rowSwap HR.out hi hk2).drew, Turns.drew ?_⟩
     exact (HT.out.put (g := g) rfl (m * 7) (evAt lm k)).put (g := g) rfl (k * 7) (evAt lm m)
    case measure => simp [intOf]; omega
   ·have hge : ¬ ((m : Int) < (l.length : Int) - 1 - (m : Int)) := by omega
    go_wp2
    go_end0
    have hd := HV.out.done hlt
    refine ⟨⟨_, rfl⟩, ?_, HT.out.mono (fun k e => by rw [e]; rfl)⟩
    have := HR.out
    rw [hd] at this
    unfold Row at this
    rw [List.length_reverse] at this
    exact this
end Go.Proofs.Ytdcnimdhfhbdmaa

/- A part at work in memory: lists of its own. -/
namespace Go.Proofs.Ytdcnimdhfhbdmaa
open Go.RowKit
theorem owns_base {B B' : Nat} {e : TypeId} {size n : Nat} {w : World} {v : Value} {xs : List Value} (h : w.ownsRow B e size v n xs) (hB : ∀ b, v.ownBlock = some b → B' ≤ b) : w.ownsRow B' e size v n xs := by
  obtain ⟨h0, h1 | ⟨g, cap, cur, rfl, hg, h2⟩⟩ := h
  · exact ⟨h0, .inl h1⟩
  · exact ⟨h0, .inr ⟨g, cap, cur, rfl, hB g rfl, h2⟩⟩
structure CpR (B : Nat) (w : World) (vr vp vt va : Value) (A1 A4 : Nat → Prop) (p : Pa) : Prop where
  regs : OwnD w A1 vr (intsD p.st.r)
  past : OwnD w A4 vp (pastsD p.p)
  todo : w.ownsRow B 40 7 vt p.t.length (cellsL p.t)
  antis : w.ownsRow B 3 1 va p.a.length (intCells p.a)
  d1 : ∀ k, A1 k → (B ≤ k ∧ k < w.heap.size) ∧ ¬ A4 k ∧ vt.ownBlock ≠ some k ∧ va.ownBlock ≠ some k
  d4 : ∀ k, A4 k → (B ≤ k ∧ k < w.heap.size) ∧ vt.ownBlock ≠ some k ∧ va.ownBlock ≠ some k
  d5 : ∀ k, vt.ownBlock = some k → va.ownBlock ≠ some k
theorem CpR.turns {S : Nat → Prop} {B : Nat} {w w' : World} {vr vp vt va : Value} {A1 A4 : Nat → Prop} {p : Pa} (h : CpR B w vr vp vt va A1 A4 p) (ht : Turns S w w') (hS : ∀ k, S k → ¬ A1 k ∧ ¬ A4 k ∧ vt.ownBlock ≠ some k ∧ va.ownBlock ≠ some k) : CpR B w' vr vp vt va A1 A4 p :=
  ⟨h.regs.turns ht (fun k hk hs => (hS k hs).1 hk), h.past.turns ht (fun k hk hs => (hS k hs).2.1 hk), owns_turns h.todo ht (fun k hk hs => (hS k hs).2.2.1 hk), owns_turns h.antis ht (fun k hk hs => (hS k hs).2.2.2 hk),
   fun k hk => ⟨⟨(h.d1 k hk).1.1, Nat.lt_of_lt_of_le (h.d1 k hk).1.2 ht.size⟩, (h.d1 k hk).2⟩, fun k hk => ⟨⟨(h.d4 k hk).1.1, Nat.lt_of_lt_of_le (h.d4 k hk).1.2 ht.size⟩, (h.d4 k hk).2⟩, h.d5⟩
theorem CpR.below {B : Nat} {w w' : World} {vr vp vt va : Value} {A1 A4 : Nat → Prop} {p : Pa} (h : CpR B w vr vp vt va A1 A4 p) (hb : Below w.heap.size w w') : CpR B w' vr vp vt va A1 A4 p :=
  h.turns (S := fun _ => False) (Turns.of_below hb) (fun _ => False.elim)
/- Its blocks. -/
theorem CpR.partF {B : Nat} {w : World} {vr vp vt va : Value} {A1 A4 : Nat → Prop} {p : Pa} (h : CpR B w vr vp vt va A1 A4 p) (F : Nat → Prop) (hF : ∀ k, A1 k ∨ A4 k ∨ vt.ownBlock = some k ∨ va.ownBlock = some k → F k) : PartF F w (.agg #[.int .i64 p.n, vr, .int .i64 p.st.q, .int .i64 p.st.d, vp, vt, va]) p :=
  ⟨A1, A4, fun k => vt.ownBlock = some k, fun k => va.ownBlock = some k, vr, vp, vt, va, rfl, h.regs, h.past, (own_rowF (cellsL_length _) h.todo).own, (own_rowF (by rw [intCells_length]; omega) h.antis).own,
   fun k hk => ⟨hF k (.inl hk), (h.d1 k hk).2⟩, fun k hk => ⟨hF k (.inr (.inl hk)), (h.d4 k hk).2⟩, fun k hk => ⟨hF k (.inr (.inr (.inl hk))), h.d5 k hk⟩, fun k hk => hF k (.inr (.inr (.inr hk)))⟩
/- The doer at block D, with what is undone. -/
structure DoR (B D : Nat) (w : World) (vr vp vt va vu : Value) (A1 A4 : Nat → Prop) (p : Pa) (u : List Ev) : Prop where
  cp : CpR B w vr vp vt va A1 A4 p
  und : w.ownsRow B 40 7 vu u.length (cellsL u)
  blk : Bk w D 108 #[vr, .int .i64 p.st.q, .int .i64 p.st.d, .int .i64 p.n, vp, vt, va, vu]
  du : ∀ k, vu.ownBlock = some k → ¬ A1 k ∧ ¬ A4 k ∧ vt.ownBlock ≠ some k ∧ va.ownBlock ≠ some k
  dD : ¬ A1 D ∧ ¬ A4 D
  lo : B ≤ D
theorem DoR.below {B D : Nat} {w w' : World} {vr vp vt va vu : Value} {A1 A4 : Nat → Prop} {p : Pa} {u : List Ev} (h : DoR B D w vr vp vt va vu A1 A4 p u) (hb : Below w.heap.size w w') : DoR B D w' vr vp vt va vu A1 A4 p u :=
  ⟨h.cp.below hb, owns_turns (S := fun _ => False) h.und (Turns.of_below hb) (fun _ _ => id), h.blk.below hb, h.du, h.dD, h.lo⟩
theorem DoR.neT {B D : Nat} {w : World} {vr vp vt va vu : Value} {A1 A4 : Nat → Prop} {p : Pa} {u : List Ev} (h : DoR B D w vr vp vt va vu A1 A4 p u) : vt.ownBlock ≠ some D ∧ va.ownBlock ≠ some D ∧ vu.ownBlock ≠ some D :=
  ⟨owns_ne h.cp.todo h.blk (by decide), owns_ne h.cp.antis h.blk (by decide), owns_ne h.und h.blk (by decide)⟩
/- The state as it is stored: what is to be done lies the last first. -/
def Pa.rev (p : Pa) : Pa := ⟨p.n, p.st, p.p, p.t.reverse, p.a⟩
theorem Pa.rev_rev (p : Pa) : p.rev.rev = p := by simp [Pa.rev]
end Go.Proofs.Ytdcnimdhfhbdmaa

/- A copy of a part whose lists may grow. The program's copy of a part: all of it in memory of its own. -/
namespace Go.Proofs.Ytdcnimdhfhbdmaa
open Go.RowKit
set_option maxRecDepth 100000 in
set_option maxHeartbeats 16000000 in
theorem copyPart_own (x : Value) (p : Pa) (w : World) (hw : p.wt ≤ 1048577) (h : IsPart w x p) :
  Calls Try.prog 39 #[x] w fun r w' => ∃ vr vp vt va A1 A4, r = .returned (.agg #[.int .i64 p.n, vr, .int .i64 p.st.q, .int .i64 p.st.d, vp, vt, va]) ∧ Below w.heap.size w w' ∧ CpR w.heap.size w' vr vp vt va A1 A4 p := by
 obtain ⟨u1, u4, u5, u6, rfl, d1, d4, d5, d6⟩ := h
 obtain ⟨a1, c1, rfl, _⟩ := IsD.len d1
 obtain ⟨a4, c4, rfl, _⟩ := IsD.len d4
 obtain ⟨a5, c5, rfl, _⟩ := IsD.len d5
 obtain ⟨a6, c6, rfl, _⟩ := IsD.len d6
 have hwt : p.t.length ≤ 1048577 ∧ p.a.length ≤ 1048577 ∧ (pastsD p.p).wt ≤ 1048577 ∧ p.st.r.length ≤ 1048577 := by
  have e0 := ints_wt p.st.r
  have e1 := evs_wt p.t
  have e2 := ints_wt p.a
  unfold Pa.wt at hw
  omega
 obtain ⟨ht9, ha9, hp9, hr9⟩ := hwt
 obtain ⟨W0, hW0⟩ : ∃ W0, (w.alloc (.cells #[.int .i64 p.n, .slice a1 p.st.r.length c1, .int .i64 p.st.q, .int .i64 p.st.d, .slice a4 p.p.length c4, .slice a5 p.t.length c5, .slice a6 p.a.length c6] 36)).alloc (.cells #[.int .i64 0, .slice none 0 0, .int .i64 0, .int .i64 0, .slice none 0 0, .slice none 0 0, .slice none 0 0] 36) = W0 := ⟨_, rfl⟩
 have hz0 : W0.heap.size = w.heap.size + 1 + 1 := by rw [← hW0]; simp
 have hb0 : Below w.heap.size w W0 := hW0 ▸ ((Below.refl _ w).alloc (Nat.le_refl _) _).alloc (by simp) _
 have HBw : Hid (Below w.heap.size w W0) := hb0
 have HW0 : Hid ((w.alloc (.cells #[.int .i64 p.n, .slice a1 p.st.r.length c1, .int .i64 p.st.q, .int .i64 p.st.d, .slice a4 p.p.length c4, .slice a5 p.t.length c5, .slice a6 p.a.length c6] 36)).alloc (.cells #[.int .i64 0, .slice none 0 0, .int .i64 0, .int .i64 0, .slice none 0 0, .slice none 0 0, .slice none 0 0] 36) = W0) := hW0
 have BX : Hid (Bk W0 w.heap.size 36 #[.int .i64 p.n, .slice a1 p.st.r.length c1, .int .i64 p.st.q, .int .i64 p.st.d, .slice a4 p.p.length c4, .slice a5 p.t.length c5, .slice a6 p.a.length c6]) := hW0 ▸ (Bk.new w _ _).alloc _
 have BZ : Hid (Bk W0 (w.heap.size + 1) 36 #[.int .i64 0, .slice none 0 0, .int .i64 0, .int .i64 0, .slice none 0 0, .slice none 0 0, .slice none 0 0]) := hW0 ▸ Bk.newAt (by simp) _ _
 have D1 : Hid (IsD W0 (.slice a1 p.st.r.length c1) (intsD p.st.r)) := d1.under hb0
 have D4 : Hid (IsD W0 (.slice a4 p.p.length c4) (pastsD p.p)) := d4.under hb0
 have D5 : Hid (IsD W0 (.slice a5 p.t.length c5) (evsD p.t)) := d5.under hb0
 have D6 : Hid (IsD W0 (.slice a6 p.a.length c6) (intsD p.a)) := d6.under hb0
 have hz0' : W0.heap.size ≤ w.heap.size + 1 + 1 ∧ w.heap.size + 1 + 1 ≤ W0.heap.size := by omega
 clear hW0 hb0 d1 d4 d5 d6 hw hz0
 go_enter Try.func39, Try.ntmps39
 go_wp2_with fail
 rw [HW0.out]
 clear HW0
 have hzd : W0.drew.heap.size ≤ W0.heap.size ∧ W0.heap.size ≤ W0.drew.heap.size := ⟨Nat.le_refl _, Nat.le_refl _⟩
 have B_0 : Hid (Below W0.heap.size W0 W0.drew) := (Below.refl _ W0).drew
 have X_0 : Hid (Bk W0.drew w.heap.size 36 #[.int .i64 p.n, .slice a1 p.st.r.length c1, .int .i64 p.st.q, .int .i64 p.st.d, .slice a4 p.p.length c4, .slice a5 p.t.length c5, .slice a6 p.a.length c6]) := BX.out.drew
 have Z_0 : Hid (Bk W0.drew (w.heap.size + 1) 36 #[.int .i64 0, .slice none 0 0, .int .i64 0, .int .i64 0, .slice none 0 0, .slice none 0 0, .slice none 0 0]) := BZ.out.drew
 have D1_0 : Hid (IsD W0.drew (.slice a1 p.st.r.length c1) (intsD p.st.r)) := D1.out.under (Below.refl _ W0).drew
 have D4_0 : Hid (IsD W0.drew (.slice a4 p.p.length c4) (pastsD p.p)) := D4.out.under (Below.refl _ W0).drew
 have D5_0 : Hid (IsD W0.drew (.slice a5 p.t.length c5) (evsD p.t)) := D5.out.under (Below.refl _ W0).drew
 have D6_0 : Hid (IsD W0.drew (.slice a6 p.a.length c6) (intsD p.a)) := D6.out.under (Below.refl _ W0).drew
 have Q_0 : Hid (W0.drew.cell? ⟨w.heap.size, 0, none⟩ = some (.int .i64 p.n) ∧ W0.drew.cell? ⟨w.heap.size, 1, none⟩ = some (.slice a1 p.st.r.length c1) ∧ W0.drew.cell? ⟨w.heap.size, 2, none⟩ = some (.int .i64 p.st.q) ∧ W0.drew.cell? ⟨w.heap.size, 3, none⟩ = some (.int .i64 p.st.d) ∧ W0.drew.cell? ⟨w.heap.size, 4, none⟩ = some (.slice a4 p.p.length c4) ∧ W0.drew.cell? ⟨w.heap.size, 5, none⟩ = some (.slice a5 p.t.length c5) ∧ W0.drew.cell? ⟨w.heap.size, 6, none⟩ = some (.slice a6 p.a.length c6)) := ⟨X_0.out.cell rfl, X_0.out.cell rfl, X_0.out.cell rfl, X_0.out.cell rfl, X_0.out.cell rfl, X_0.out.cell rfl, X_0.out.cell rfl⟩
 clear BX BZ D1 D4 D5 D6
 refine wp_region_z 15 (fun W => W.cell? ⟨w.heap.size, 0, none⟩ = some (.int .i64 p.n) ∧ W.cell? ⟨w.heap.size, 1, none⟩ = some (.slice a1 p.st.r.length c1) ∧ W.cell? ⟨w.heap.size, 2, none⟩ = some (.int .i64 p.st.q) ∧ W.cell? ⟨w.heap.size, 3, none⟩ = some (.int .i64 p.st.d) ∧ W.cell? ⟨w.heap.size, 4, none⟩ = some (.slice a4 p.p.length c4) ∧ W.cell? ⟨w.heap.size, 5, none⟩ = some (.slice a5 p.t.length c5) ∧ W.cell? ⟨w.heap.size, 6, none⟩ = some (.slice a6 p.a.length c6)) (by kernel_rfl) Q_0.out (fun hHeld => ?_)
 refine wpAnyZ_take (i := 0) (oi := { dst := some 3, op := Op.fieldAddr 36 (Operand.tmp 1) 0, type := 0, pos := _, after := _, guard := none }) (v := .pointer (some ⟨w.heap.size, 0, none⟩)) 0 [] rfl (by kernel_rfl) (by kernel_rfl) (by kernel_rfl) (by kernel_rfl) (by kernel_rfl) (fun _ _ _ h => h) (Or.inl ⟨by rfl, ?_⟩) (by assumption) ?_
 ·intro wX hSw
  try dsimp only at hSw
  go_simp
  try exact IntWalk.i64_in _ (by omega)
 try simp only [Act.put, List.setIfInBounds_toArray, List.set_cons_zero, List.set_cons_succ]
 refine wpAnyZ_take (i := 1) (oi := { dst := some 4, op := Op.load 3 (Operand.tmp 3), type := 3, pos := _, after := _, guard := none }) (v := .int .i64 p.n) 1 [] rfl (by kernel_rfl) (by kernel_rfl) (by kernel_rfl) (by kernel_rfl) (by kernel_rfl) (fun _ _ _ h => h) (Or.inl ⟨by rfl, ?_⟩) (by assumption) ?_
 ·intro wX hSw
  try dsimp only at hSw
  go_simp
  try exact IntWalk.i64_in _ (by omega)
 try simp only [Act.put, List.setIfInBounds_toArray, List.set_cons_zero, List.set_cons_succ]
 refine wpAnyZ_take (i := 2) (oi := { dst := some 5, op := Op.fieldAddr 36 (Operand.tmp 1) 1, type := 0, pos := _, after := _, guard := none }) (v := .pointer (some ⟨w.heap.size, 1, none⟩)) 2 [] rfl (by kernel_rfl) (by kernel_rfl) (by kernel_rfl) (by kernel_rfl) (by kernel_rfl) (fun _ _ _ h => h) (Or.inl ⟨by rfl, ?_⟩) (by assumption) ?_
 ·intro wX hSw
  try dsimp only at hSw
  go_simp
  try exact IntWalk.i64_in _ (by omega)
 try simp only [Act.put, List.setIfInBounds_toArray, List.set_cons_zero, List.set_cons_succ]
 refine wpAnyZ_take (i := 3) (oi := { dst := some 6, op := Op.load 32 (Operand.tmp 5), type := 32, pos := _, after := _, guard := none }) (v := .agg #[.slice a1 p.st.r.length c1, .int .i64 p.st.q, .int .i64 p.st.d]) 3 [] rfl (by kernel_rfl) (by kernel_rfl) (by kernel_rfl) (by kernel_rfl) (by kernel_rfl) (fun _ _ _ h => h) (Or.inl ⟨by rfl, ?_⟩) (by assumption) ?_
 ·intro wX hSw
  try dsimp only at hSw
  go_simp
  try exact IntWalk.i64_in _ (by omega)
 try simp only [Act.put, List.setIfInBounds_toArray, List.set_cons_zero, List.set_cons_succ]
 refine wpAnyZ_take (i := 5) (oi := { dst := some 8, op := Op.fieldAddr 36 (Operand.tmp 1) 2, type := 0, pos := _, after := _, guard := none }) (v := .pointer (some ⟨w.heap.size, 4, none⟩)) 5 [] rfl (by kernel_rfl) (by kernel_rfl) (by kernel_rfl) (by kernel_rfl) (by kernel_rfl) (fun _ _ _ h => h) (Or.inl ⟨by rfl, ?_⟩) (by assumption) ?_
 ·intro wX hSw
  try dsimp only at hSw
  go_simp
  try exact IntWalk.i64_in _ (by omega)
 try simp only [Act.put, List.setIfInBounds_toArray, List.set_cons_zero, List.set_cons_succ]
 refine wpAnyZ_take (i := 6) (oi := { dst := some 9, op := Op.load 33 (Operand.tmp 8), type := 33, pos := _, after := _, guard := none }) (v := .slice a4 p.p.length c4) 6 [] rfl (by kernel_rfl) (by kernel_rfl) (by kernel_rfl) (by kernel_rfl) (by kernel_rfl) (fun _ _ _ h => h) (Or.inl ⟨by rfl, ?_⟩) (by assumption) ?_
 ·intro wX hSw
  try dsimp only at hSw
  go_simp
  try exact IntWalk.i64_in _ (by omega)
 try simp only [Act.put, List.setIfInBounds_toArray, List.set_cons_zero, List.set_cons_succ]
 refine wpAnyZ_take (i := 8) (oi := { dst := some 11, op := Op.fieldAddr 36 (Operand.tmp 1) 3, type := 0, pos := _, after := _, guard := none }) (v := .pointer (some ⟨w.heap.size, 5, none⟩)) 8 [] rfl (by kernel_rfl) (by kernel_rfl) (by kernel_rfl) (by kernel_rfl) (by kernel_rfl) (fun _ _ _ h => h) (Or.inl ⟨by rfl, ?_⟩) (by assumption) ?_
 ·intro wX hSw
  try dsimp only at hSw
  go_simp
  try exact IntWalk.i64_in _ (by omega)
 try simp only [Act.put, List.setIfInBounds_toArray, List.set_cons_zero, List.set_cons_succ]
 refine wpAnyZ_take (i := 9) (oi := { dst := some 12, op := Op.load 34 (Operand.tmp 11), type := 34, pos := _, after := _, guard := none }) (v := .slice a5 p.t.length c5) 9 [] rfl (by kernel_rfl) (by kernel_rfl) (by kernel_rfl) (by kernel_rfl) (by kernel_rfl) (fun _ _ _ h => h) (Or.inl ⟨by rfl, ?_⟩) (by assumption) ?_
 ·intro wX hSw
  try dsimp only at hSw
  go_simp
  try exact IntWalk.i64_in _ (by omega)
 try simp only [Act.put, List.setIfInBounds_toArray, List.set_cons_zero, List.set_cons_succ]
 refine wpAnyZ_take (i := 11) (oi := { dst := some 14, op := Op.fieldAddr 36 (Operand.tmp 1) 4, type := 0, pos := _, after := _, guard := none }) (v := .pointer (some ⟨w.heap.size, 6, none⟩)) 11 [] rfl (by kernel_rfl) (by kernel_rfl) (by kernel_rfl) (by kernel_rfl) (by kernel_rfl) (fun _ _ _ h => h) (Or.inl ⟨by rfl, ?_⟩) (by assumption) ?_
 ·intro wX hSw
  try dsimp only at hSw
  go_simp
  try exact IntWalk.i64_in _ (by omega)
 try simp only [Act.put, List.setIfInBounds_toArray, List.set_cons_zero, List.set_cons_succ]
 refine wpAnyZ_take (i := 12) (oi := { dst := some 15, op := Op.load 22 (Operand.tmp 14), type := 22, pos := _, after := _, guard := none }) (v := .slice a6 p.a.length c6) 12 [] rfl (by kernel_rfl) (by kernel_rfl) (by kernel_rfl) (by kernel_rfl) (by kernel_rfl) (fun _ _ _ h => h) (Or.inl ⟨by rfl, ?_⟩) (by assumption) ?_
 ·intro wX hSw
  try dsimp only at hSw
  go_simp
  try exact IntWalk.i64_in _ (by omega)
 try simp only [Act.put, List.setIfInBounds_toArray, List.set_cons_zero, List.set_cons_succ]
 refine wpAnyZ_ready (rs := [4]) (by kernel_rfl) (by simp) ?_
 refine AllReadyZ.cons (o := { dst := some 7, op := Op.call { callee := Callee.value (Operand.func 70), args := #[Operand.tmp 6], argTypes := #[32] }, type := 32, pos := _, after := _, guard := none }) rfl (fun K hK => ?_) AllReadyZ.nil
 have hbs1 : W0.heap.size ≤ W0.drew.heap.size := B_0.out.size
 go_simp
 refine (snap_src _ _ p.st W0.drew hr9 rfl D1_0.out).mono ?_
 rintro e w1 ⟨vs1, rfl, hown, hb⟩
 obtain ⟨as1, cs1, hvs⟩ := owns_slice hown
 subst hvs
 have HLS : Hid (∀ k', (.slice as1 p.st.r.length cs1 : Value).ownBlock = some k' → W0.drew.heap.size ≤ k' ∧ k' < w1.heap.size) := row_lim hown
 have hz1 : W0.drew.heap.size ≤ w1.heap.size := hb.size
 have B_2 : Hid (Below W0.heap.size W0 w1) := B_0.out.trans (hb.mono B_0.out.size)
 have X_2 : Hid (Bk w1 w.heap.size 36 #[.int .i64 p.n, .slice a1 p.st.r.length c1, .int .i64 p.st.q, .int .i64 p.st.d, .slice a4 p.p.length c4, .slice a5 p.t.length c5, .slice a6 p.a.length c6]) := X_0.out.below hb
 have Z_2 : Hid (Bk w1 (w.heap.size + 1) 36 #[.int .i64 0, .slice none 0 0, .int .i64 0, .int .i64 0, .slice none 0 0, .slice none 0 0, .slice none 0 0]) := Z_0.out.below hb
 have D4_2 : Hid (IsD w1 (.slice a4 p.p.length c4) (pastsD p.p)) := D4_0.out.under hb
 have D5_2 : Hid (IsD w1 (.slice a5 p.t.length c5) (evsD p.t)) := D5_0.out.under hb
 have D6_2 : Hid (IsD w1 (.slice a6 p.a.length c6) (intsD p.a)) := D6_0.out.under hb
 clear B_0 X_0 Z_0 D1_0 D4_0 D5_0 D6_0
 have S_2 : Hid (w1.ownsRow W0.heap.size 3 1 (.slice as1 p.st.r.length cs1) p.st.r.length (intCells p.st.r)) := owns_mono hown hbs1
 clear hown hb
 have Q_2 : Hid (w1.cell? ⟨w.heap.size, 0, none⟩ = some (.int .i64 p.n) ∧ w1.cell? ⟨w.heap.size, 1, none⟩ = some (.slice a1 p.st.r.length c1) ∧ w1.cell? ⟨w.heap.size, 2, none⟩ = some (.int .i64 p.st.q) ∧ w1.cell? ⟨w.heap.size, 3, none⟩ = some (.int .i64 p.st.d) ∧ w1.cell? ⟨w.heap.size, 4, none⟩ = some (.slice a4 p.p.length c4) ∧ w1.cell? ⟨w.heap.size, 5, none⟩ = some (.slice a5 p.t.length c5) ∧ w1.cell? ⟨w.heap.size, 6, none⟩ = some (.slice a6 p.a.length c6)) := ⟨X_2.out.cell rfl, X_2.out.cell rfl, X_2.out.cell rfl, X_2.out.cell rfl, X_2.out.cell rfl, X_2.out.cell rfl, X_2.out.cell rfl⟩
 refine hK.out _ _ Q_2.out (fun hHeld => ?_)
 clear hK K
 try simp only [Act.put, List.setIfInBounds_toArray, List.set_cons_zero, List.set_cons_succ]
 refine wpAnyZ_ready (rs := [7]) (by kernel_rfl) (by simp) ?_
 refine AllReadyZ.cons (o := { dst := some 10, op := Op.call { callee := Callee.value (Operand.func 38), args := #[Operand.tmp 9], argTypes := #[33] }, type := 33, pos := _, after := _, guard := none }) rfl (fun K hK => ?_) AllReadyZ.nil
 have hbs3 : W0.heap.size ≤ w1.heap.size := B_2.out.size
 go_simp
 refine (copyPasts_any _ p.p w1 hp9 D4_2.out).mono ?_
 rintro e w3 ⟨vs1, rfl, hb, hown⟩
 obtain ⟨ap1, cp1, hvs, _⟩ := OwnD.parts (c := 12) (n := p.p.length) hown
 subst hvs
 have hz3 : w1.heap.size ≤ w3.heap.size := hb.size
 have B_4 : Hid (Below W0.heap.size W0 w3) := B_2.out.trans (hb.mono B_2.out.size)
 have X_4 : Hid (Bk w3 w.heap.size 36 #[.int .i64 p.n, .slice a1 p.st.r.length c1, .int .i64 p.st.q, .int .i64 p.st.d, .slice a4 p.p.length c4, .slice a5 p.t.length c5, .slice a6 p.a.length c6]) := X_2.out.below hb
 have Z_4 : Hid (Bk w3 (w.heap.size + 1) 36 #[.int .i64 0, .slice none 0 0, .int .i64 0, .int .i64 0, .slice none 0 0, .slice none 0 0, .slice none 0 0]) := Z_2.out.below hb
 have D5_4 : Hid (IsD w3 (.slice a5 p.t.length c5) (evsD p.t)) := D5_2.out.under hb
 have D6_4 : Hid (IsD w3 (.slice a6 p.a.length c6) (intsD p.a)) := D6_2.out.under hb
 have S_4 : Hid (w3.ownsRow W0.heap.size 3 1 (.slice as1 p.st.r.length cs1) p.st.r.length (intCells p.st.r)) := owns_turns S_2.out (Turns.of_below hb) (fun _ _ => id)
 clear B_2 X_2 Z_2 D4_2 D5_2 D6_2 S_2
 have P_4 : Hid (OwnD w3 (fun k => w1.heap.size ≤ k ∧ k < w3.heap.size) (.slice ap1 p.p.length cp1) (pastsD p.p)) := hown
 clear hown hb
 have Q_4 : Hid (w3.cell? ⟨w.heap.size, 0, none⟩ = some (.int .i64 p.n) ∧ w3.cell? ⟨w.heap.size, 1, none⟩ = some (.slice a1 p.st.r.length c1) ∧ w3.cell? ⟨w.heap.size, 2, none⟩ = some (.int .i64 p.st.q) ∧ w3.cell? ⟨w.heap.size, 3, none⟩ = some (.int .i64 p.st.d) ∧ w3.cell? ⟨w.heap.size, 4, none⟩ = some (.slice a4 p.p.length c4) ∧ w3.cell? ⟨w.heap.size, 5, none⟩ = some (.slice a5 p.t.length c5) ∧ w3.cell? ⟨w.heap.size, 6, none⟩ = some (.slice a6 p.a.length c6)) := ⟨X_4.out.cell rfl, X_4.out.cell rfl, X_4.out.cell rfl, X_4.out.cell rfl, X_4.out.cell rfl, X_4.out.cell rfl, X_4.out.cell rfl⟩
 refine hK.out _ _ Q_4.out (fun hHeld => ?_)
 clear hK K
 try simp only [Act.put, List.setIfInBounds_toArray, List.set_cons_zero, List.set_cons_succ]
 refine wpAnyZ_ready (rs := [10]) (by kernel_rfl) (by simp) ?_
 refine AllReadyZ.cons (o := { dst := some 13, op := Op.call { callee := Callee.value (Operand.func 71), args := #[Operand.tmp 12], argTypes := #[34] }, type := 34, pos := _, after := _, guard := none }) rfl (fun K hK => ?_) AllReadyZ.nil
 have hbs5 : W0.heap.size ≤ w3.heap.size := B_4.out.size
 go_simp
 refine (copyEv_src _ p.t w3 ht9 D5_4.out.srcEv).mono ?_
 rintro e w5 ⟨vs1, rfl, hown, hb⟩
 obtain ⟨at1, ct1, hvs⟩ := owns_slice hown
 subst hvs
 have HLT : Hid (∀ k', (.slice at1 p.t.length ct1 : Value).ownBlock = some k' → w3.heap.size ≤ k' ∧ k' < w5.heap.size) := row_lim hown
 have hz5 : w3.heap.size ≤ w5.heap.size := hb.size
 have B_6 : Hid (Below W0.heap.size W0 w5) := B_4.out.trans (hb.mono B_4.out.size)
 have X_6 : Hid (Bk w5 w.heap.size 36 #[.int .i64 p.n, .slice a1 p.st.r.length c1, .int .i64 p.st.q, .int .i64 p.st.d, .slice a4 p.p.length c4, .slice a5 p.t.length c5, .slice a6 p.a.length c6]) := X_4.out.below hb
 have Z_6 : Hid (Bk w5 (w.heap.size + 1) 36 #[.int .i64 0, .slice none 0 0, .int .i64 0, .int .i64 0, .slice none 0 0, .slice none 0 0, .slice none 0 0]) := Z_4.out.below hb
 have D6_6 : Hid (IsD w5 (.slice a6 p.a.length c6) (intsD p.a)) := D6_4.out.under hb
 have S_6 : Hid (w5.ownsRow W0.heap.size 3 1 (.slice as1 p.st.r.length cs1) p.st.r.length (intCells p.st.r)) := owns_turns S_4.out (Turns.of_below hb) (fun _ _ => id)
 have P_6 : Hid (OwnD w5 (fun k => w1.heap.size ≤ k ∧ k < w3.heap.size) (.slice ap1 p.p.length cp1) (pastsD p.p)) := P_4.out.under hb
 clear B_4 X_4 Z_4 D5_4 D6_4 S_4 P_4
 have T_6 : Hid (w5.ownsRow W0.heap.size 40 7 (.slice at1 p.t.length ct1) p.t.length (cellsL p.t)) := owns_mono hown hbs5
 clear hown hb
 have Q_6 : Hid (w5.cell? ⟨w.heap.size, 0, none⟩ = some (.int .i64 p.n) ∧ w5.cell? ⟨w.heap.size, 1, none⟩ = some (.slice a1 p.st.r.length c1) ∧ w5.cell? ⟨w.heap.size, 2, none⟩ = some (.int .i64 p.st.q) ∧ w5.cell? ⟨w.heap.size, 3, none⟩ = some (.int .i64 p.st.d) ∧ w5.cell? ⟨w.heap.size, 4, none⟩ = some (.slice a4 p.p.length c4) ∧ w5.cell? ⟨w.heap.size, 5, none⟩ = some (.slice a5 p.t.length c5) ∧ w5.cell? ⟨w.heap.size, 6, none⟩ = some (.slice a6 p.a.length c6)) := ⟨X_6.out.cell rfl, X_6.out.cell rfl, X_6.out.cell rfl, X_6.out.cell rfl, X_6.out.cell rfl, X_6.out.cell rfl, X_6.out.cell rfl⟩
 refine hK.out _ _ Q_6.out (fun hHeld => ?_)
 clear hK K
 try simp only [Act.put, List.setIfInBounds_toArray, List.set_cons_zero, List.set_cons_succ]
 refine wpAnyZ_ready (rs := [13]) (by kernel_rfl) (by simp) ?_
 refine AllReadyZ.cons (o := { dst := some 16, op := Op.call { callee := Callee.value (Operand.func 73), args := #[Operand.tmp 15], argTypes := #[22] }, type := 22, pos := _, after := _, guard := none }) rfl (fun K hK => ?_) AllReadyZ.nil
 have hbs7 : W0.heap.size ≤ w5.heap.size := B_6.out.size
 go_simp
 refine (copyI_src _ p.a w5 ha9 D6_6.out.srcI).mono ?_
 rintro e w7 ⟨vs1, rfl, hown, hb⟩
 obtain ⟨aa1, ca1, hvs⟩ := owns_slice hown
 subst hvs
 have HLA : Hid (∀ k', (.slice aa1 p.a.length ca1 : Value).ownBlock = some k' → w5.heap.size ≤ k' ∧ k' < w7.heap.size) := row_lim hown
 have hz7 : w5.heap.size ≤ w7.heap.size := hb.size
 have B_8 : Hid (Below W0.heap.size W0 w7) := B_6.out.trans (hb.mono B_6.out.size)
 have X_8 : Hid (Bk w7 w.heap.size 36 #[.int .i64 p.n, .slice a1 p.st.r.length c1, .int .i64 p.st.q, .int .i64 p.st.d, .slice a4 p.p.length c4, .slice a5 p.t.length c5, .slice a6 p.a.length c6]) := X_6.out.below hb
 have Z_8 : Hid (Bk w7 (w.heap.size + 1) 36 #[.int .i64 0, .slice none 0 0, .int .i64 0, .int .i64 0, .slice none 0 0, .slice none 0 0, .slice none 0 0]) := Z_6.out.below hb
 have S_8 : Hid (w7.ownsRow W0.heap.size 3 1 (.slice as1 p.st.r.length cs1) p.st.r.length (intCells p.st.r)) := owns_turns S_6.out (Turns.of_below hb) (fun _ _ => id)
 have P_8 : Hid (OwnD w7 (fun k => w1.heap.size ≤ k ∧ k < w3.heap.size) (.slice ap1 p.p.length cp1) (pastsD p.p)) := P_6.out.under hb
 have T_8 : Hid (w7.ownsRow W0.heap.size 40 7 (.slice at1 p.t.length ct1) p.t.length (cellsL p.t)) := owns_turns T_6.out (Turns.of_below hb) (fun _ _ => id)
 clear B_6 X_6 Z_6 D6_6 S_6 P_6 T_6
 have A_8 : Hid (w7.ownsRow W0.heap.size 3 1 (.slice aa1 p.a.length ca1) p.a.length (intCells p.a)) := owns_mono hown hbs7
 clear hown hb
 have Q_8 : Hid (w7.cell? ⟨w.heap.size, 0, none⟩ = some (.int .i64 p.n) ∧ w7.cell? ⟨w.heap.size, 1, none⟩ = some (.slice a1 p.st.r.length c1) ∧ w7.cell? ⟨w.heap.size, 2, none⟩ = some (.int .i64 p.st.q) ∧ w7.cell? ⟨w.heap.size, 3, none⟩ = some (.int .i64 p.st.d) ∧ w7.cell? ⟨w.heap.size, 4, none⟩ = some (.slice a4 p.p.length c4) ∧ w7.cell? ⟨w.heap.size, 5, none⟩ = some (.slice a5 p.t.length c5) ∧ w7.cell? ⟨w.heap.size, 6, none⟩ = some (.slice a6 p.a.length c6)) := ⟨X_8.out.cell rfl, X_8.out.cell rfl, X_8.out.cell rfl, X_8.out.cell rfl, X_8.out.cell rfl, X_8.out.cell rfl, X_8.out.cell rfl⟩
 refine hK.out _ _ Q_8.out (fun hHeld => ?_)
 clear hK K
 try simp only [Act.put, List.setIfInBounds_toArray, List.set_cons_zero, List.set_cons_succ]
 refine wpAnyZ_take (i := 14) (oi := { dst := some 17, op := Op.build 36 #[(0, Operand.tmp 4), (1, Operand.tmp 7), (2, Operand.tmp 10), (3, Operand.tmp 13), (4, Operand.tmp 16)], type := 36, pos := _, after := _, guard := none }) (v := .agg #[.int .i64 p.n, .slice as1 p.st.r.length cs1, .int .i64 p.st.q, .int .i64 p.st.d, .slice ap1 p.p.length cp1, .slice at1 p.t.length ct1, .slice aa1 p.a.length ca1]) 14 [] rfl (by kernel_rfl) (by kernel_rfl) (by kernel_rfl) (by kernel_rfl) (by kernel_rfl) (fun _ _ _ h => h) (Or.inl ⟨by rfl, ?_⟩) (by assumption) ?_
 ·intro wX hSw
  try dsimp only at hSw
  go_simp
  try exact IntWalk.i64_in _ (by omega)
 try simp only [Act.put, List.setIfInBounds_toArray, List.set_cons_zero, List.set_cons_succ]
 refine wpAnyZ_ready (rs := [15]) (by kernel_rfl) (by simp) ?_
 refine AllReadyZ.last (o := { dst := none, op := Op.store 36 (Operand.tmp 2) (Operand.tmp 17), type := 0, pos := _, after := _, guard := none }) rfl (fun K hK => ?_)
 have q0 := Z_8.out.cell (i := 0) rfl
 have q1 := Z_8.out.cell (i := 1) rfl
 have q2 := Z_8.out.cell (i := 2) rfl
 have q3 := Z_8.out.cell (i := 3) rfl
 have q4 := Z_8.out.cell (i := 4) rfl
 have q5 := Z_8.out.cell (i := 5) rfl
 have q6 := Z_8.out.cell (i := 6) rfl
 have qf := Z_8.out.free
 go_simp
 clear qf q0 q1 q2 q3 q4 q5 q6
 refine hK.out _ _ ?_
 clear hK K
 try simp only [Act.put, List.setIfInBounds_toArray, List.set_cons_zero, List.set_cons_succ]
 refine wpAnyZ_done (by kernel_rfl) ?_ _
 obtain ⟨X5, hX5⟩ : ∃ X5, put7s w7 (w.heap.size + 1) (.int .i64 p.n) (.slice as1 p.st.r.length cs1) (.int .i64 p.st.q) (.int .i64 p.st.d) (.slice ap1 p.p.length cp1) (.slice at1 p.t.length ct1) (.slice aa1 p.a.length ca1) = X5 := ⟨_, rfl⟩
 have hP := Z_8.out.put7s (.int .i64 p.n) (.slice as1 p.st.r.length cs1) (.int .i64 p.st.q) (.int .i64 p.st.d) (.slice ap1 p.p.length cp1) (.slice at1 p.t.length ct1) (.slice aa1 p.a.length ca1)
 have ht := put7s_turns w7 (w.heap.size + 1) (.int .i64 p.n) (.slice as1 p.st.r.length cs1) (.int .i64 p.st.q) (.int .i64 p.st.d) (.slice ap1 p.p.length cp1) (.slice at1 p.t.length ct1) (.slice aa1 p.a.length ca1)
 rw [hX5] at hP ht
 unfold put7s at hX5
 rw [hX5]
 clear hX5
 go_wp2
 have t0 := hP.cell (i := 0) rfl
 have t1 := hP.cell (i := 1) rfl
 have t2 := hP.cell (i := 2) rfl
 have t3 := hP.cell (i := 3) rfl
 have t4 := hP.cell (i := 4) rfl
 have t5 := hP.cell (i := 5) rfl
 have t6 := hP.cell (i := 6) rfl
 refine bodyPost_ret (v := .agg #[.int .i64 p.n, .slice as1 p.st.r.length cs1, .int .i64 p.st.q, .int .i64 p.st.d, .slice ap1 p.p.length cp1, .slice at1 p.t.length ct1, .slice aa1 p.a.length ca1]) (by simp [results, Try.results39, go_sem, t0, t1, t2, t3, t4, t5, t6]) rfl ?_
 have hBs := B_8.out.size
 have hts := ht.size
 have hss := S_8.out
 have hTm : ∀ b, (.slice at1 p.t.length ct1 : Value).ownBlock = some b → w.heap.size ≤ b := fun b hb => by have := HLT.out b hb; omega
 have hAm : ∀ b, (.slice aa1 p.a.length ca1 : Value).ownBlock = some b → w.heap.size ≤ b := fun b hb => by have := HLA.out b hb; omega
 refine ⟨_, _, _, _, (fun b => (.slice as1 p.st.r.length cs1 : Value).ownBlock = some b), (fun k => w1.heap.size ≤ k ∧ k < w3.heap.size), rfl, (HBw.out.trans (B_8.out.mono (by omega))).trans (ht.to_below (fun k e => by omega) (by omega)), ?_, ?_, ?_, ?_, ?_, ?_, ?_⟩
 ·exact (own_rowF (by rw [intCells_length]; omega) (owns_turns S_8.out ht (fun b hb e => by have := HLS.out b hb; omega))).own
 ·exact P_8.out.turns ht (fun b hb e => by omega)
 ·exact owns_base (owns_turns T_8.out ht (fun b hb e => by have := HLT.out b hb; omega)) hTm
 ·exact owns_base (owns_turns A_8.out ht (fun b hb e => by have := HLA.out b hb; omega)) hAm
 ·exact fun b hb => ⟨by have := HLS.out b hb; omega, fun e => by have := HLS.out b hb; omega, fun e => by have := HLS.out b hb; have := HLT.out b e; omega, fun e => by have := HLS.out b hb; have := HLA.out b e; omega⟩
 ·exact fun b hb => ⟨by omega, fun e => by have := HLT.out b e; omega, fun e => by have := HLA.out b e; omega⟩
 ·exact fun b hb e => by have := HLT.out b hb; have := HLA.out b e; omega
end Go.Proofs.Ytdcnimdhfhbdmaa

/- The program's doerWith, doerOf. -/
namespace Go.Proofs.Ytdcnimdhfhbdmaa
open Go.RowKit
theorem CpR.forms {B : Nat} {w : World} {vr vp vt va : Value} {A1 A4 : Nat → Prop} {p : Pa} (h : CpR B w vr vp vt va A1 A4 p) : ∃ a1 c1 a4 c4 a5 c5 a6 c6, vr = .slice a1 p.st.r.length c1 ∧ vp = .slice a4 p.p.length c4 ∧ vt = .slice a5 p.t.length c5 ∧ va = .slice a6 p.a.length c6 := by
  obtain ⟨a1, c1, e1, _⟩ := OwnD.parts (c := 1) (n := p.st.r.length) h.regs
  obtain ⟨a4, c4, e4, _⟩ := OwnD.parts (c := 12) (n := p.p.length) h.past
  obtain ⟨a5, c5, e5⟩ := owns_slice h.todo
  obtain ⟨a6, c6, e6⟩ := owns_slice h.antis
  exact ⟨a1, c1, a4, c4, a5, c5, a6, c6, e1, e4, e5, e6⟩
theorem CpR.revd {B : Nat} {w w' : World} {vr vp vt va : Value} {A1 A4 : Nat → Prop} {p : Pa} (h : CpR B w vr vp vt va A1 A4 p) (ho : w'.ownsRow B 40 7 vt p.t.reverse.length (cellsL p.t.reverse)) (ht : Turns (fun k => vt.ownBlock = some k) w w') : CpR B w' vr vp vt va A1 A4 p.rev :=
  ⟨h.regs.turns ht (fun k hk hs => (h.d1 k hk).2.2.1 hs), h.past.turns ht (fun k hk hs => (h.d4 k hk).2.1 hs), ho, owns_turns h.antis ht (fun k hk hs => h.d5 k hs hk),
   fun k hk => ⟨⟨(h.d1 k hk).1.1, Nat.lt_of_lt_of_le (h.d1 k hk).1.2 ht.size⟩, (h.d1 k hk).2⟩, fun k hk => ⟨⟨(h.d4 k hk).1.1, Nat.lt_of_lt_of_le (h.d4 k hk).1.2 ht.size⟩, (h.d4 k hk).2⟩, h.d5⟩
set_option maxRecDepth 100000 in
set_option maxHeartbeats 8000000 in
theorem doerWith_any (B : Nat) (vr vp vt va : Value) (A1 A4 : Nat → Prop) (p : Pa) (w : World) (hB : B ≤ w.heap.size) (hl : p.t.length ≤ 1048577) (h : CpR B w vr vp vt va A1 A4 p) :
    Calls Try.prog 76 #[.agg #[.int .i64 p.n, vr, .int .i64 p.st.q, .int .i64 p.st.d, vp, vt, va]] w fun r w' => ∃ D, r = .returned (.pointer (some ⟨D, 0, none⟩)) ∧ DoR B D w' vr vp vt va (.slice none 0 0) A1 A4 p.rev [] ∧ (w.heap.size ≤ D ∧ D < w'.heap.size) ∧ Turns (fun k => vt.ownBlock = some k) w w' := by
  have HH : Hid (CpR B w vr vp vt va A1 A4 p) := h
  obtain ⟨a1, c1, a4, c4, a5, c5, a6, c6, rfl, rfl, rfl, rfl⟩ := h.forms
  obtain ⟨W0, hW0⟩ : ∃ W0, w.alloc (.cells #[.int .i64 p.n, .slice a1 p.st.r.length c1, .int .i64 p.st.q, .int .i64 p.st.d, .slice a4 p.p.length c4, .slice a5 p.t.length c5, .slice a6 p.a.length c6] 36) = W0 := ⟨_, rfl⟩
  have HP0 : Hid (Bk W0 w.heap.size 36 #[.int .i64 p.n, .slice a1 p.st.r.length c1, .int .i64 p.st.q, .int .i64 p.st.d, .slice a4 p.p.length c4, .slice a5 p.t.length c5, .slice a6 p.a.length c6]) := hW0 ▸ Bk.new _ _ _
  have HB0 : Hid (Below w.heap.size w W0) := hW0 ▸ (Below.refl _ w).alloc (Nat.le_refl _) _
  have HC0 : Hid (CpR B W0 (.slice a1 p.st.r.length c1) (.slice a4 p.p.length c4) (.slice a5 p.t.length c5) (.slice a6 p.a.length c6) A1 A4 p) := HH.out.below HB0.out
  have hs0 : w.heap.size < W0.heap.size := HP0.out.lt
  have x5 := HP0.out.cell (i := 5) rfl
  clear h
  go_enter Try.func76, Try.ntmps76
  go_wp2_with fail
  clear hW0 x5
  refine (rev_any B _ p.t W0 hl HC0.out.todo).mono ?_
  rintro r w1 ⟨⟨u, rfl⟩, ho, ht⟩
  have HP1 : Hid (Bk w1 w.heap.size 36 #[.int .i64 p.n, .slice a1 p.st.r.length c1, .int .i64 p.st.q, .int .i64 p.st.d, .slice a4 p.p.length c4, .slice a5 p.t.length c5, .slice a6 p.a.length c6]) := HP0.out.turns ht (owns_ne HC0.out.todo HP0.out (by decide))
  have HC1 : Hid (CpR B w1 (.slice a1 p.st.r.length c1) (.slice a4 p.p.length c4) (.slice a5 p.t.length c5) (.slice a6 p.a.length c6) A1 A4 p.rev) := HC0.out.revd ho ht
  have HT1 : Hid (Turns (fun k => (Value.slice a5 p.t.length c5).ownBlock = some k) w w1) := (Turns.of_below HB0.out).trans ht
  have hs1 : W0.heap.size ≤ w1.heap.size := ht.size
  have x0 := HP1.out.cell (i := 0) rfl
  have x1 := HP1.out.cell (i := 1) rfl
  have x2 := HP1.out.cell (i := 2) rfl
  have x3 := HP1.out.cell (i := 3) rfl
  have x4 := HP1.out.cell (i := 4) rfl
  have x5 := HP1.out.cell (i := 5) rfl
  have x6 := HP1.out.cell (i := 6) rfl
  clear ho ht HP0 HC0
  obtain ⟨W2, hW2⟩ : ∃ W2, w1.alloc (.cells #[.slice a1 p.st.r.length c1, .int .i64 p.st.q, .int .i64 p.st.d, .int .i64 p.n, .slice a4 p.p.length c4, .slice a5 p.t.length c5, .slice a6 p.a.length c6, .slice none 0 0] 108) = W2 := ⟨_, rfl⟩
  have HD2 : Hid (Bk W2 w1.heap.size 108 #[.slice a1 p.st.r.length c1, .int .i64 p.st.q, .int .i64 p.st.d, .int .i64 p.n, .slice a4 p.p.length c4, .slice a5 p.t.length c5, .slice a6 p.a.length c6, .slice none 0 0]) := hW2 ▸ Bk.new _ _ _
  have HB2 : Hid (Below w1.heap.size w1 W2) := hW2 ▸ (Below.refl _ w1).alloc (Nat.le_refl _) _
  have HW2 : Hid _ := hW2
  clear hW2
  go_wp2
  try rw [HW2.out]
  go_ret
  refine ⟨w1.heap.size, rfl, ⟨HC1.out.below HB2.out, World.ownsRow_nil W2 B _ 7, HD2.out, fun k e => by simp [Value.ownBlock] at e, ⟨fun e => by have := (HC1.out.d1 _ e).1; omega, fun e => by have := (HC1.out.d4 _ e).1; omega⟩, by omega⟩, ⟨by omega, HD2.out.lt⟩, HT1.out.trans (Turns.of_below HB2.out)⟩
set_option maxRecDepth 100000 in
set_option maxHeartbeats 8000000 in
theorem doerOf_any (x : Value) (p : Pa) (w : World) (hw : p.wt ≤ 1048576) (h : IsPart w x p) :
    Calls Try.prog 51 #[x] w fun r w' => ∃ D vr vp vt va A1 A4, r = .returned (.pointer (some ⟨D, 0, none⟩)) ∧ DoR w.heap.size D w' vr vp vt va (.slice none 0 0) A1 A4 p.rev [] ∧ Below w.heap.size w w' := by
  have HI : Hid (IsPart w x p) := h
  have HWT : Hid (p.wt ≤ 1048576) := hw
  obtain ⟨u1, u4, u5, u6, rfl, d1, d4, d5, d6⟩ := h
  obtain ⟨W0, hW0⟩ : ∃ W0, w.alloc (.cells #[.int .i64 p.n, u1, .int .i64 p.st.q, .int .i64 p.st.d, u4, u5, u6] 36) = W0 := ⟨_, rfl⟩
  have HP0 : Hid (Bk W0 w.heap.size 36 #[.int .i64 p.n, u1, .int .i64 p.st.q, .int .i64 p.st.d, u4, u5, u6]) := hW0 ▸ Bk.new _ _ _
  have HB0 : Hid (Below w.heap.size w W0) := hW0 ▸ (Below.refl _ w).alloc (Nat.le_refl _) _
  have x0 := HP0.out.cell (i := 0) rfl
  have x1 := HP0.out.cell (i := 1) rfl
  have x2 := HP0.out.cell (i := 2) rfl
  have x3 := HP0.out.cell (i := 3) rfl
  have x4 := HP0.out.cell (i := 4) rfl
  have x5 := HP0.out.cell (i := 5) rfl
  have x6 := HP0.out.cell (i := 6) rfl
  clear d1 d4 d5 d6 hw
  go_enter Try.func51, Try.ntmps51
  go_wp2_with fail
  clear hW0 x0 x1 x2 x3 x4 x5 x6
  refine (copyPart_own _ p W0 (by have := HWT.out; omega) (HI.out.under HB0.out)).mono ?_
  rintro r w1 ⟨vr, vp, vt, va, A1, A4, rfl, hb, hc⟩
  have HB1 : Hid (Below w.heap.size w w1) := HB0.out.trans (hb.mono HB0.out.size)
  have HC1 : Hid (CpR W0.heap.size w1 vr vp vt va A1 A4 p) := hc
  have hs1 : W0.heap.size ≤ w1.heap.size := hb.size
  have hs0 : w.heap.size ≤ W0.heap.size := HB0.out.size
  clear hb hc HP0
  go_wp2_with fail
  refine (doerWith_any W0.heap.size vr vp vt va A1 A4 p w1 hs1 (by have h9 := HWT.out; unfold Pa.wt at h9; rw [evs_wt] at h9; omega) HC1.out).mono ?_
  rintro r w2 ⟨D, rfl, hD, hDl, ht⟩
  have HD : Hid (DoR W0.heap.size D w2 vr vp vt va (.slice none 0 0) A1 A4 p.rev []) := hD
  have HB2 : Hid (Below w.heap.size w w2) := HB1.out.trans (ht.to_below (fun k e => by have := row_ge HC1.out.todo e; omega) HB1.out.size)
  clear hD ht
  go_wp2
  go_ret
  have hd := HD.out
  exact ⟨D, vr, vp, vt, va, A1, A4, rfl, ⟨⟨hd.cp.regs, hd.cp.past, owns_mono hd.cp.todo hs0, owns_mono hd.cp.antis hs0, fun k hk => ⟨⟨by have := (hd.cp.d1 k hk).1; omega, (hd.cp.d1 k hk).1.2⟩, (hd.cp.d1 k hk).2⟩, fun k hk => ⟨⟨by have := (hd.cp.d4 k hk).1; omega, (hd.cp.d4 k hk).1.2⟩, (hd.cp.d4 k hk).2⟩, hd.cp.d5⟩, World.ownsRow_nil _ _ _ _, hd.blk, hd.du, hd.dD, by have := hd.lo; omega⟩, HB2.out⟩
end Go.Proofs.Ytdcnimdhfhbdmaa

