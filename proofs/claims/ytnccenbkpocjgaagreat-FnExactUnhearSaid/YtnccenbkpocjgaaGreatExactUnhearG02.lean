/- SeI, PDo, PDr, HPu, SlCi -/
import Derived.Test.YtnccenbkpocjgaaGreatExactHearG31
import Derived.Deep.Cut
import Derived.Test.YtnccenbkpocjgaaGreatExactHearG28
import Derived.Test.YtnccenbkpocjgaaGreatExactHearG30
import Derived.Test.YtnccenbkpocjgaaGreatExactHearG04
import Derived.BigRegion
import Derived.Test.YtnccenbkpocjgaaGreatExactHearG18
import Derived.Test.YtnccenbkpocjgaaGreatExactHearG15
import Derived.Sort.BigQuietIn
/- slices.BinarySearch over numbers. -/
namespace Go.Proofs.YtnccenbkpocjgaaGreat
open Go.RowKit
theorem nanC (a : Int) (w : World) : Calls Tryz.prog 154 #[.int .i64 a] w fun e w' => e = .returned (.bool false) ∧ w' = w := by
 go_enter Tryz.func154, Tryz.ntmps154
 go_wp2
 go_ret
 exact ⟨by simp, rfl⟩
theorem nanS (a : Int) (w : World) : Calls Tryz.prog 201 #[.int .i64 a] w fun e w' => e = .returned (.bool false) ∧ w' = w := by
 go_enter Tryz.func201, Tryz.ntmps201
 go_wp2
 go_ret
 exact ⟨by simp, rfl⟩
theorem less_any (a b : Int) (w : World) : Calls Tryz.prog 200 #[.int .i64 a, .int .i64 b] w fun e w' => e = .returned (.bool (decide (a < b))) ∧ w' = w := by
 go_enter Tryz.func200, Tryz.ntmps200
 go_wp2_with (go_at_call 154; refine (nanC _ _).mono ?_; rintro e w1 ⟨rfl, hw⟩; obtain rfl := hw.symm)
 go_ret
 exact ⟨rfl, rfl⟩
structure FoundZ (l : List Int) (z : Int) (i : Nat) (f : Bool) : Prop where
 le : i ≤ l.length
 lo : i = 0 ∨ intAt l (i - 1) < z
 hi : i < l.length → ¬ intAt l i < z
 fd : f = true ↔ i < l.length ∧ intAt l i = z
def FoundZr (l : List Int) (z : Int) (r : Ending) : Prop := ∃ (i : Nat) (f : Bool), r = .returned (.tuple #[.int .i64 (i : Int), .bool f]) ∧ FoundZ l z i f
set_option maxRecDepth 100000 in
set_option maxHeartbeats 8000000 in
theorem searchI_any (a : Option Addr) (cap : Nat) (l : List Int) (z : Int) (w : World) (hl : l.length ≤ 1048577) (h : IsI w (.slice a l.length cap) l) :
  Calls Tryz.prog 166 #[.slice a l.length cap, .int .i64 z] w fun r w' => FoundZr l z r ∧ w' = w := by
 have HI : Hid (l = [] ∨ ∃ b off, a = some ⟨b, off, none⟩ ∧ IntsAt w b off l) := by
  obtain ⟨a', c', e, _, _, h⟩ := h
  cases e
  exact h
 clear h
 go_enter Tryz.func166, Tryz.ntmps166
 go_wp2
 go_loopw [7, 8] (fun i j wr => wr = w ∧ ∃ x y : Nat, x ≤ y ∧ y ≤ l.length ∧ i = .int .i64 x ∧ j = .int .i64 y ∧ Hid (x = 0 ∨ intAt l (x - 1) < z) ∧ Hid (y < l.length → ¬ intAt l y < z)) (fun i j _ => (intOf j).toNat - (intOf i).toNat)
 case atStart => exact ⟨rfl, 0, l.length, Nat.zero_le _, Nat.le_refl _, rfl, rfl, .inl rfl, fun h => absurd h (Nat.lt_irrefl _)⟩
 case round =>
  obtain ⟨hw, x, y, hxy, hyn, rfl, rfl, HL, HU⟩ := hrel
  have hw' := hw.symm
  clear hw
  subst hw'
  by_cases hlt : x < y
  ·have hxi : (x : Int) < (y : Int) := by omega
   have hsum : (x : Int) + (y : Int) ≤ 2097154 := by omega
   obtain ⟨b, off, rfl, hb, hc⟩ := HI.out.resolve_left (by intro e; rw [e] at hyn; simp at hyn; omega)
   go_upto_region 5 with fail
   obtain ⟨h, hh⟩ : ∃ h : Nat, ((x : Int) + (y : Int)) / 2 = (h : Int) := ⟨(x + y) / 2, by omega⟩
   rw [hh]
   have hh1 : x ≤ h := by omega
   have hh2 : h < y := by omega
   clear hh
   have hhn : (h : Int) < (l.length : Int) := by omega
   have hh0 : (0 : Int) ≤ (h : Int) := by omega
   have k0 := hc h (by omega)
   clear hc
   by_cases hzl : intAt l h < z
   ·go_wp2_with (go_at_call 200; refine (less_any _ _ _).mono ?_; rintro e w1 ⟨rfl, hw⟩; obtain rfl := hw.symm)
    go_roundw
    case rel => exact ⟨by simp, h + 1, y, by omega, hyn, by go_num, rfl, .inr (by rw [Nat.add_sub_cancel]; omega), fun hy => by have := HU.out hy; omega⟩
    case measure => simp [intOf]; omega
   ·go_wp2_with (go_at_call 200; refine (less_any _ _ _).mono ?_; rintro e w1 ⟨rfl, hw⟩; obtain rfl := hw.symm)
    go_roundw
    case rel => exact ⟨by simp, x, h, hh1, by omega, rfl, rfl, HL.out, fun _ => by omega⟩
    case measure => simp [intOf]; omega
  ·obtain rfl : x = y := by omega
   clear hlt
   by_cases hxn : x < l.length
   ·have hxi : (x : Int) < (l.length : Int) := by omega
    have hx0 : (0 : Int) ≤ (x : Int) := by omega
    obtain ⟨b, off, rfl, hb, hc⟩ := HI.out.resolve_left (by intro e; rw [e] at hxn; simp at hxn)
    have k0 := hc x hxn
    clear hc
    by_cases hz : intAt l x = z
    ·have hzb : (intAt l x == z) = true := by simpa using hz
     have HF : Hid (FoundZ l z x true) := ⟨hyn, HL.out, fun hy => by (have := HU.out hy; omega), fun _ => ⟨hxn, hz⟩, fun _ => rfl⟩
     clear hz
     go_wp2
     go_ret2
     exact ⟨⟨x, true, rfl, HF.out⟩, rfl⟩
    ·have hzb : (intAt l x == z) = false := by rw [beq_eq_false_iff_ne]; exact hz
     have HF : Hid (FoundZ l z x false) := ⟨hyn, HL.out, fun hy => by (have := HU.out hy; omega), fun e => (by cases e), fun e => absurd e.2 hz⟩
     go_wp2_with (go_at_call 201; refine (nanS _ _).mono ?_; rintro e w1 ⟨rfl, hw⟩; obtain rfl := hw.symm)
     go_ret2
     exact ⟨⟨x, false, rfl, HF.out⟩, rfl⟩
   ·have hxi : ¬ ((x : Int) < (l.length : Int)) := by omega
    have HF : Hid (FoundZ l z x false) := ⟨hyn, HL.out, fun hy => by (have := HU.out hy; omega), fun e => (by cases e), fun e => absurd e.1 hxn⟩
    go_wp2
    go_ret2
    exact ⟨⟨x, false, rfl, HF.out⟩, rfl⟩
end Go.Proofs.YtnccenbkpocjgaaGreat
/- A part at work in memory: lists of its own. -/
namespace Go.Proofs.YtnccenbkpocjgaaGreat
open Go.RowKit
theorem owns_base {B B' : Nat} {e : TypeId} {size n : Nat} {w : World} {v : Value} {xs : List Value} (h : w.ownsRow B e size v n xs) (hB : ∀ b, v.ownBlock = some b → B' ≤ b) : w.ownsRow B' e size v n xs := by
  obtain ⟨h0, h1 | ⟨g, cap, cur, rfl, hg, h2⟩⟩ := h
  · exact ⟨h0, .inl h1⟩
  · exact ⟨h0, .inr ⟨g, cap, cur, rfl, hB g rfl, h2⟩⟩
structure CpR (B : Nat) (w : World) (vr vp vt va : Value) (A1 A4 : Nat → Prop) (p : Pa) : Prop where
  regs : OwnD w A1 vr (intsD p.st.r)
  past : OwnD w A4 vp (pastsD p.p)
  todo : w.ownsRow B 55 7 vt p.t.length (cellsL p.t)
  antis : w.ownsRow B 3 1 va p.a.length (intCells p.a)
  d1 : ∀ k, A1 k → (B ≤ k ∧ k < w.heap.size) ∧ ¬ A4 k ∧ vt.ownBlock ≠ some k ∧ va.ownBlock ≠ some k
  d4 : ∀ k, A4 k → (B ≤ k ∧ k < w.heap.size) ∧ vt.ownBlock ≠ some k ∧ va.ownBlock ≠ some k
  d5 : ∀ k, vt.ownBlock = some k → va.ownBlock ≠ some k
theorem CpR.turns {S : Nat → Prop} {B : Nat} {w w' : World} {vr vp vt va : Value} {A1 A4 : Nat → Prop} {p : Pa} (h : CpR B w vr vp vt va A1 A4 p) (ht : Turns S w w') (hS : ∀ k, S k → ¬ A1 k ∧ ¬ A4 k ∧ vt.ownBlock ≠ some k ∧ va.ownBlock ≠ some k) : CpR B w' vr vp vt va A1 A4 p :=
  ⟨h.regs.turns ht (fun k hk hs => (hS k hs).1 hk), h.past.turns ht (fun k hk hs => (hS k hs).2.1 hk), owns_turns h.todo ht (fun k hk hs => (hS k hs).2.2.1 hk), owns_turns h.antis ht (fun k hk hs => (hS k hs).2.2.2 hk),
   fun k hk => ⟨⟨(h.d1 k hk).1.1, Nat.lt_of_lt_of_le (h.d1 k hk).1.2 ht.size⟩, (h.d1 k hk).2⟩, fun k hk => ⟨⟨(h.d4 k hk).1.1, Nat.lt_of_lt_of_le (h.d4 k hk).1.2 ht.size⟩, (h.d4 k hk).2⟩, h.d5⟩
theorem CpR.below {B : Nat} {w w' : World} {vr vp vt va : Value} {A1 A4 : Nat → Prop} {p : Pa} (h : CpR B w vr vp vt va A1 A4 p) (hb : Below w.heap.size w w') : CpR B w' vr vp vt va A1 A4 p :=
  h.turns (S := fun _ => False) (Turns.of_below hb) (fun _ => False.elim)
theorem CpR.partF {B : Nat} {w : World} {vr vp vt va : Value} {A1 A4 : Nat → Prop} {p : Pa} (h : CpR B w vr vp vt va A1 A4 p) (F : Nat → Prop) (hF : ∀ k, A1 k ∨ A4 k ∨ vt.ownBlock = some k ∨ va.ownBlock = some k → F k) : PartF F w (.agg #[.int .i64 p.n, vr, .int .i64 p.st.q, .int .i64 p.st.d, vp, vt, va]) p :=
  ⟨A1, A4, fun k => vt.ownBlock = some k, fun k => va.ownBlock = some k, vr, vp, vt, va, rfl, h.regs, h.past, (own_rowF (cellsL_length _) h.todo).own, (own_rowF (by rw [intCells_length]; omega) h.antis).own,
   fun k hk => ⟨hF k (.inl hk), (h.d1 k hk).2⟩, fun k hk => ⟨hF k (.inr (.inl hk)), (h.d4 k hk).2⟩, fun k hk => ⟨hF k (.inr (.inr (.inl hk))), h.d5 k hk⟩, fun k hk => hF k (.inr (.inr (.inr hk)))⟩
structure DoR (B D : Nat) (w : World) (vr vp vt va vu : Value) (A1 A4 : Nat → Prop) (p : Pa) (u : List Ev) : Prop where
  cp : CpR B w vr vp vt va A1 A4 p
  und : w.ownsRow B 55 7 vu u.length (cellsL u)
  blk : Bk w D 157 #[vr, .int .i64 p.st.q, .int .i64 p.st.d, .int .i64 p.n, vp, vt, va, vu]
  du : ∀ k, vu.ownBlock = some k → ¬ A1 k ∧ ¬ A4 k ∧ vt.ownBlock ≠ some k ∧ va.ownBlock ≠ some k
  dD : ¬ A1 D ∧ ¬ A4 D
  lo : B ≤ D
theorem DoR.below {B D : Nat} {w w' : World} {vr vp vt va vu : Value} {A1 A4 : Nat → Prop} {p : Pa} {u : List Ev} (h : DoR B D w vr vp vt va vu A1 A4 p u) (hb : Below w.heap.size w w') : DoR B D w' vr vp vt va vu A1 A4 p u :=
  ⟨h.cp.below hb, owns_turns (S := fun _ => False) h.und (Turns.of_below hb) (fun _ _ => id), h.blk.below hb, h.du, h.dD, h.lo⟩
theorem DoR.neT {B D : Nat} {w : World} {vr vp vt va vu : Value} {A1 A4 : Nat → Prop} {p : Pa} {u : List Ev} (h : DoR B D w vr vp vt va vu A1 A4 p u) : vt.ownBlock ≠ some D ∧ va.ownBlock ≠ some D ∧ vu.ownBlock ≠ some D :=
  ⟨owns_ne h.cp.todo h.blk (by decide), owns_ne h.cp.antis h.blk (by decide), owns_ne h.und h.blk (by decide)⟩
def Pa.rev (p : Pa) : Pa := ⟨p.n, p.st, p.p, p.t.reverse, p.a⟩
theorem Pa.rev_rev (p : Pa) : p.rev.rev = p := by simp [Pa.rev]
end Go.Proofs.YtnccenbkpocjgaaGreat
/- slices.Reverse over events. -/
namespace Go.Proofs.YtnccenbkpocjgaaGreat
open Go.RowKit
theorem rowCells7 {w : World} {B g cap : Nat} {l : List Ev} (h : Row w B g cap l) {i : Nat} (hi : i < l.length) :
  (w.cell? ⟨g, i * 7, none⟩ = some (.int .i64 (evAt l i).t) ∧ w.cell? ⟨g, i * 7 + 1, none⟩ = some (.int .i64 (evAt l i).s) ∧ w.cell? ⟨g, i * 7 + 2, none⟩ = some (.int .i64 (evAt l i).q) ∧ w.cell? ⟨g, i * 7 + 3, none⟩ = some (.int .i64 (evAt l i).d) ∧ w.cell? ⟨g, i * 7 + 4, none⟩ = some (.int .i64 (evAt l i).k) ∧ w.cell? ⟨g, i * 7 + 5, none⟩ = some (.int .i64 (evAt l i).v) ∧ w.cell? ⟨g, i * 7 + 6, none⟩ = some (.int .i64 (evAt l i).g)) ∧
  (w.frozen? ⟨g, i * 7, none⟩ = false ∧ w.frozen? ⟨g, i * 7 + 1, none⟩ = false ∧ w.frozen? ⟨g, i * 7 + 2, none⟩ = false ∧ w.frozen? ⟨g, i * 7 + 3, none⟩ = false ∧ w.frozen? ⟨g, i * 7 + 4, none⟩ = false ∧ w.frozen? ⟨g, i * 7 + 5, none⟩ = false ∧ w.frozen? ⟨g, i * 7 + 6, none⟩ = false) :=
 ⟨⟨(h.ev hi).f0, (h.ev hi).f1, (h.ev hi).f2, (h.ev hi).f3, (h.ev hi).f4, (h.ev hi).f5, (h.ev hi).f6⟩, ⟨h.frozen _, h.frozen _, h.frozen _, h.frozen _, h.frozen _, h.frozen _, h.frozen _⟩⟩
theorem rowSwap {w : World} {B g cap : Nat} {l : List Ev} (h : Row w B g cap l) {i k : Nat} (hi : i < l.length) (hk : k < l.length) : Row (put7 (put7 w g (i * 7) (evAt l k)) g (k * 7) (evAt l i)) B g cap (swp l i k) :=
 (h.put hi (evAt l k)).put (by simpa using hk) (evAt l i)
def RevAt (l lm : List Ev) (m : Nat) : Prop := lm.length = l.length ∧ ∀ j, j < l.length → evAt lm j = if j < m ∨ l.length - m ≤ j then evAt l (l.length - 1 - j) else evAt l j
theorem RevAt.step {l lm : List Ev} {m : Nat} (h : RevAt l lm m) (hm : m < l.length - 1 - m) : RevAt l (swp lm m (l.length - 1 - m)) (m + 1) := by
 obtain ⟨hl, h⟩ := h
 refine ⟨by rw [swp_length, hl], fun j hj => ?_⟩
 rw [evAt_swp _ _ _ _ (by omega) (by omega)]
 by_cases e1 : l.length - 1 - m = j
 ·rw [if_pos e1, h m (by omega), if_neg (by omega), if_pos (by omega)]
  congr 1
  omega
 ·rw [if_neg e1]
  by_cases e2 : m = j
  ·rw [if_pos e2, h (l.length - 1 - m) (by omega), if_neg (by omega), if_pos (by omega), e2]
  ·rw [if_neg e2, h j hj]
   by_cases e3 : j < m ∨ l.length - m ≤ j
   ·rw [if_pos e3, if_pos (by omega)]
   ·rw [if_neg e3, if_neg (by omega)]
theorem evAt_rev (l : List Ev) {j : Nat} (h : j < l.length) : evAt l.reverse j = evAt l (l.length - 1 - j) := by
 unfold evAt
 rw [List.getD_eq_getElem?_getD, List.getD_eq_getElem?_getD, List.getElem?_reverse h]
theorem RevAt.done {l lm : List Ev} {m : Nat} (h : RevAt l lm m) (hm : ¬ m < l.length - 1 - m) : lm = l.reverse := by
 obtain ⟨hl, h⟩ := h
 refine ext_ev (by rw [hl, List.length_reverse]) (fun j hj => ?_)
 rw [hl] at hj
 rw [evAt_rev l hj, h j hj]
 by_cases e : j < m ∨ l.length - m ≤ j
 ·rw [if_pos e]
 ·rw [if_neg e]
  congr 1
  omega
set_option maxRecDepth 100000 in
set_option maxHeartbeats 16000000 in
theorem rev_any (B : Nat) (v : Value) (l : List Ev) (w : World) (hl : l.length ≤ 1048577) (h : w.ownsRow B 55 7 v l.length (cellsL l)) :
  Calls Tryz.prog 141 #[v] w fun r w' => (∃ u, r = .returned u) ∧ w'.ownsRow B 55 7 v l.reverse.length (cellsL l.reverse) ∧ Turns (fun k => v.ownBlock = some k) w w' := by
 by_cases h0 : l.length = 0
 ·obtain rfl : l = [] := List.eq_nil_of_length_eq_zero h0
  obtain ⟨a, cap, rfl⟩ := owns_slice h
  have HH : Hid (w.ownsRow B 55 7 (.slice a ([] : List Ev).length cap) ([] : List Ev).length (cellsL [])) := h
  clear h h0 hl
  go_enter Tryz.func141, Tryz.ntmps141
  go_wp2
  go_loopw [2, 3] (fun i j wr => i = .int .i64 0 ∧ j = .int .i64 (-1) ∧ wr = w) (fun _ _ _ => 0)
  case atStart => exact ⟨rfl, rfl, rfl⟩
  case round =>
   obtain ⟨rfl, rfl, rfl⟩ := hrel
   go_wp2
   go_end0
   exact ⟨⟨_, rfl⟩, HH.out, Turns.refl _ _⟩
 ·obtain ⟨g, cap, rfl⟩ : ∃ g cap, v = .slice (some ⟨g, 0, none⟩) l.length cap := by
   obtain ⟨_, ⟨_, h1⟩ | ⟨g, cap, cur, e, _⟩⟩ := h
   ·exact absurd h1 h0
   ·exact ⟨g, cap, e⟩
  have HR : Hid (Row w B g cap l) := h
  have hn : 1 ≤ (l.length : Int) := by omega
  clear h
  go_enter Tryz.func141, Tryz.ntmps141
  go_wp2
  go_loopw [2, 3] (fun i j wr => ∃ (m : Nat) (lm : List Ev), i = .int .i64 (m : Int) ∧ j = .int .i64 ((l.length : Int) - 1 - (m : Int)) ∧ 2 * m ≤ l.length ∧ Hid (RevAt l lm m) ∧ Hid (Row wr B g cap lm) ∧ Hid (Turns (fun k => k = g) w wr)) (fun i _ _ => l.length - (intOf i).toNat)
  case atStart => exact ⟨0, l, rfl, by simp, by omega, ⟨rfl, fun j hj => by rw [if_neg (by omega)]⟩, HR.out, Turns.refl _ _⟩
  case round =>
   clear HR
   obtain ⟨m, lm, rfl, rfl, hm2, HV, HR, HT⟩ := hrel
   have hll : lm.length ≤ l.length ∧ l.length ≤ lm.length := by have := HV.out.1; omega
   by_cases hlt : m < l.length - 1 - m
   ·obtain ⟨k, hk⟩ : ∃ k, l.length - 1 - m = k := ⟨_, rfl⟩
    have HK : Hid (l.length - 1 - m = k) := hk
    have hi : m < lm.length := by omega
    have hk2 : k < lm.length := by omega
    obtain ⟨⟨f0, f1, f2, f3, f4, f5, f6⟩, ⟨z0, z1, z2, z3, z4, z5, z6⟩⟩ := rowCells7 HR.out hi
    obtain ⟨⟨e0, e1, e2, e3, e4, e5, e6⟩, ⟨y0, y1, y2, y3, y4, y5, y6⟩⟩ := rowCells7 HR.out hk2
    have hkz : (l.length : Int) - 1 - (m : Int) = (k : Int) := by omega
    have hi1 : (m : Int) < (l.length : Int) := by omega
    have hk1 : (k : Int) < (l.length : Int) := by omega
    have hmk : (m : Int) < (k : Int) := by omega
    have hmk' : m < k := by omega
    have hkn : ¬ k = m := by omega
    have hgw : g < wr.heap.size := HR.out.lt.2
    clear hk
    rw [hkz]
    clear hkz
    go_wp2_with fail
    go_big_region
    go_wp2
    go_roundw
    case rel =>
     refine ⟨m + 1, swp lm m k, by go_num, by rw [show (l.length : Int) - 1 - ((m + 1 : Nat) : Int) = (k : Int) - 1 from by have := HK.out; omega], by omega, by rw [← HK.out]; exact HV.out.step hlt, (rowSwap HR.out hi hk2).drew, Turns.drew ?_⟩
     exact (HT.out.put (g := g) rfl (m * 7) (evAt lm k)).put (g := g) rfl (k * 7) (evAt lm m)
    case measure => simp [intOf]; omega
   ·have hge : ¬ ((m : Int) < (l.length : Int) - 1 - (m : Int)) := by omega
    go_wp2
    go_end0
    have hd := HV.out.done hlt
    refine ⟨⟨_, rfl⟩, ?_, HT.out.mono (fun k e => by rw [e]; rfl)⟩
    have := HR.out
    rw [hd] at this
    unfold Row at this
    rw [List.length_reverse] at this
    exact this
end Go.Proofs.YtnccenbkpocjgaaGreat
/- What becomes of a part that hears of an event: in plain words. -/
namespace Go.Proofs.YtnccenbkpocjgaaGreat
open Go.RowKit
def AntiAt (a : List Int) (g : Int) (i : Nat) : Prop := i < a.length ∧ intAt a i = g
noncomputable def antiO (a : List Int) (g : Int) : Option Nat := @dite _ (∃ i, AntiAt a g i) (Classical.propDecidable _) (fun h => some h.choose) (fun _ => none)
theorem asc_lt {l : List Int} (h : Asc l) : ∀ (d i : Nat), i + d + 1 < l.length → intAt l i < intAt l (i + d + 1)
 | 0, i, hi => by
  have := (h (i + 1) (by omega)).2.2 (by omega)
  simpa using this
 | d + 1, i, hi => by
  have h1 := asc_lt h d i (by omega)
  have h2 := (h (i + (d + 1) + 1) hi).2.2 (by omega)
  rw [show i + (d + 1) + 1 - 1 = i + d + 1 by omega] at h2
  omega
theorem AntiAt.uniq {a : List Int} (h : Asc a) {g : Int} {i j : Nat} (hi : AntiAt a g i) (hj : AntiAt a g j) : i = j := by
 rcases Nat.lt_trichotomy i j with hl | hl | hl
 ·have := asc_lt h (j - i - 1) i (by have := hj.1; omega)
  rw [show i + (j - i - 1) + 1 = j by omega, hi.2, hj.2] at this
  omega
 ·exact hl
 ·have := asc_lt h (i - j - 1) j (by have := hi.1; omega)
  rw [show j + (i - j - 1) + 1 = i by omega, hi.2, hj.2] at this
  omega
theorem antiO_some {a : List Int} (h : Asc a) {g : Int} {i : Nat} (hi : AntiAt a g i) : antiO a g = some i := by
 unfold antiO
 have hx : ∃ i, AntiAt a g i := ⟨i, hi⟩
 rw [dif_pos hx, AntiAt.uniq h hx.choose_spec hi]
theorem antiO_none {a : List Int} {g : Int} (h : ∀ i, i < a.length → intAt a i ≠ g) : antiO a g = none := by
 unfold antiO
 rw [dif_neg (fun ⟨i, hi⟩ => h i hi.1 hi.2)]
theorem FoundZ.anti {l : List Int} {z : Int} {i : Nat} {f : Bool} (h : FoundZ l z i f) (ha : Asc l) : antiO l z = if f then some i else none := by
 cases hf : f
 ·rw [if_neg (by simp)]
  refine antiO_none fun j hj e => ?_
  rw [hf] at h
  have hn : ¬ (i < l.length ∧ intAt l i = z) := fun q => by have := h.fd.2 q; cases this
  by_cases hji : j < i
  ·have h1 := (h.lo).resolve_left (by omega)
   by_cases e2 : j = i - 1
   ·subst e2; omega
   ·have := asc_lt ha (i - 1 - j - 1) j (by have := h.le; omega)
    rw [show j + (i - 1 - j - 1) + 1 = i - 1 by omega] at this
    omega
  ·have h2 := h.hi (by omega)
   by_cases e2 : j = i
   ·subst e2; exact hn ⟨hj, e⟩
   ·have := asc_lt ha (j - i - 1) i (by omega)
    rw [show i + (j - i - 1) + 1 = j by omega] at this
    omega
 ·rw [if_pos rfl]
  exact antiO_some ha (h.fd.1 hf)
end Go.Proofs.YtnccenbkpocjgaaGreat
/- Slices that are cut. -/
namespace Go.Proofs.YtnccenbkpocjgaaGreat
open Go.RowKit
theorem infoSli : (Tryz.prog.info? 3).map (fun i => (i.zero, i.size, i.bytes)) = some (some (.int .i64 0), 1, 8) := by kernel_rfl
theorem sizeSli : (Tryz.prog.info? 3).map (·.size) = some 1 := by
 obtain ⟨i0, hi, hz0, hz1, hz2⟩ := info_parts infoSli
 rw [hi]; simp [hz1]
theorem cutLi (a : Option Addr) (n cap k : Nat) (hk : k ≤ n) (w : World) : (Instr.sliceAt 22 (.slice a n cap) (some (.int .i64 (k : Int))) none none).run Tryz.prog w = .ok (sliced a k n cap 1) w := by
 obtain ⟨i0, hi, hz0, hz1, hz2⟩ := info_parts infoSli
 have hu : Tryz.prog.underlying 22 = some (.slice (Tryz.prog.elem 22)) := by kernel_rfl
 have he : Tryz.prog.elem 22 = 3 := by kernel_rfl
 rw [run_sliceAt_slice (h := hu), run_slice_l (ht := hu) (h0 := by omega) (h1 := by omega), he]
 simp [sizeOf, typeInfo, hi, hz1]
theorem cutHi (a : Option Addr) (n cap k : Nat) (hk : k ≤ cap) (w : World) : (Instr.sliceAt 22 (.slice a n cap) none (some (.int .i64 (k : Int))) none).run Tryz.prog w = .ok (sliced a 0 k cap 1) w := by
 obtain ⟨i0, hi, hz0, hz1, hz2⟩ := info_parts infoSli
 have hu : Tryz.prog.underlying 22 = some (.slice (Tryz.prog.elem 22)) := by kernel_rfl
 have he : Tryz.prog.elem 22 = 3 := by kernel_rfl
 rw [run_sliceAt_slice (h := hu), run_slice_h (ht := hu) (h0 := by omega) (h2 := by omega), he]
 simp [sizeOf, typeInfo, hi, hz1]
end Go.Proofs.YtnccenbkpocjgaaGreat
