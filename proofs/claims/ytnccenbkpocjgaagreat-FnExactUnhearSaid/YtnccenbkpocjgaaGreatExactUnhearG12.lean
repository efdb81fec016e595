/- UDd, UUh -/
import Derived.Test.YtnccenbkpocjgaaGreatExactUnhearG10
import Derived.Test.YtnccenbkpocjgaaGreatExactUnhearG02
import Derived.Test.YtnccenbkpocjgaaGreatExactUnhearG11
/- Is an event done? -/
namespace Go.Proofs.YtnccenbkpocjgaaGreat
open Go.RowKit
theorem hidUDd {p : Prop} (h : p) : Hid p := h
set_option maxRecDepth 100000 in
set_option maxHeartbeats 4000000 in
theorem did1_any (p : Ps) (u7 u10 u11 : Value) (c : Bool) (Bt : Nat) (g : Int) (w : World) (hg : (p.e.g == g) = c) (hb : Bt < w.heap.size) (hc : w.cell? ⟨Bt, 0, none⟩ = some (.int .i64 g)) :
  Calls Tryz.prog 176 #[.agg #[.int .i64 p.e.t, .int .i64 p.e.s, .int .i64 p.e.q, .int .i64 p.e.d, .int .i64 p.e.k, .int .i64 p.e.v, .int .i64 p.e.g, u7, .int .i64 p.b.q, .int .i64 p.b.d, u10, u11], .pointer (some ⟨Bt, 0, none⟩)] w fun r w' => r = .returned (.bool c) ∧ Below w.heap.size w w' := by
 obtain ⟨W0, hW0⟩ : ∃ V, w.alloc (.cells #[.int .i64 p.e.t, .int .i64 p.e.s, .int .i64 p.e.q, .int .i64 p.e.d, .int .i64 p.e.k, .int .i64 p.e.v, .int .i64 p.e.g, u7, .int .i64 p.b.q, .int .i64 p.b.d, u10, u11] 126) = V := ⟨_, rfl⟩
 have hb0 : Below w.heap.size w W0 := hW0 ▸ (Below.refl _ w).alloc (Nat.le_refl _) _
 have HB0 := hidUDd hb0
 have BX : Bk W0 w.heap.size 126 #[.int .i64 p.e.t, .int .i64 p.e.s, .int .i64 p.e.q, .int .i64 p.e.d, .int .i64 p.e.k, .int .i64 p.e.v, .int .i64 p.e.g, u7, .int .i64 p.b.q, .int .i64 p.b.d, u10, u11] := hW0 ▸ Bk.new w _ _
 have x6 := BX.cell (i := 6) rfl
 have hc0 : W0.cell? ⟨Bt, 0, none⟩ = some (.int .i64 g) := (hb0.cell (p := ⟨Bt, 0, none⟩) hb).trans hc
 clear hb0 BX hc
 go_enter Tryz.func176, Tryz.ntmps176
 go_wp2
 go_ret
 exact ⟨rfl, HB0.out⟩
def idxR (l : List Ps) (g : Int) (r : Ending) : Prop := (∃ i : Nat, r = .returned (.int .i64 (i : Int)) ∧ i < l.length ∧ (psAt l i).e.g = g) ∨ (r = .returned (.int .i64 (-1)) ∧ ∀ i, i < l.length → (psAt l i).e.g ≠ g)
set_option maxRecDepth 100000 in
set_option maxHeartbeats 8000000 in
theorem idx_any (a : Option Addr) (cap : Nat) (l : List Ps) (Bt : Nat) (g : Int) (w : World) (hl : l.length ≤ 1048577) (hb : Bt < w.heap.size) (hc : w.cell? ⟨Bt, 0, none⟩ = some (.int .i64 g)) (h : IsD w (.slice a l.length cap) (pastsD l)) :
  Calls Tryz.prog 205 #[.slice a l.length cap, .func (.func 176) #[] #[.pointer (some ⟨Bt, 0, none⟩)]] w fun r w' => idxR l g r ∧ Below w.heap.size w w' := by
 have HI := hidUDd h
 have HC := hidUDd hc
 clear h hc
 go_enter Tryz.func205, Tryz.ntmps205
 go_wp2
 go_loopw [8] (fun i wr => Hid (Below w.heap.size w wr) ∧ ∃ j : Nat, j ≤ l.length ∧ i = .int .i64 j ∧ Hid (∀ i, i < j → (psAt l i).e.g ≠ g)) (fun i _ => l.length - (intOf i).toNat)
 case atStart => exact ⟨Below.refl _ _, 0, Nat.zero_le _, rfl, fun j hj => by omega⟩
 case round =>
  obtain ⟨HB, j, hj, rfl, HA⟩ := hrel
  have hsz : w.heap.size ≤ wr.heap.size := HB.out.size
  by_cases hlt : j < l.length
  ·obtain ⟨a', cap', e', _, _, hh⟩ := IsD.parts (c := 12) (n := l.length) (HI.out.under HB.out)
   cases e'
   obtain ⟨b, off, rfl, hbl, hcc⟩ := hh.resolve_left (by omega)
   have hji : (j : Int) < (l.length : Int) := by omega
   have hd : decide (j < l.length) = true := by simpa using hlt
   obtain ⟨u7, u10, u11, k0, k1, k2, k3, k4, k5, k6, k7, k8, k9, k10, k11, _, _, _⟩ := pastsD_in hcc hlt
   clear hcc
   have hct : wr.cell? ⟨Bt, 0, none⟩ = some (.int .i64 g) := (HB.out.cell (p := ⟨Bt, 0, none⟩) hb).trans HC.out
   have HCT := hidUDd hct
   clear hct
   by_cases hz : (psAt l j).e.g = g
   ·have HG : Hid (((psAt l j).e.g == g) = true) := by (show _ = _; simpa using hz)
    have HZ : Hid ((psAt l j).e.g = g) := hz
    clear hz
    go_wp2_with (go_at_call 176; refine (did1_any (psAt l j) _ _ _ true Bt g _ HG.out (by omega) HCT.out).mono ?_; rintro r w2 ⟨rfl, hb2⟩)
    go_ret
    exact ⟨.inl ⟨j, rfl, hlt, HZ.out⟩, HB.out.trans (hb2.mono hsz)⟩
   ·have HG : Hid (((psAt l j).e.g == g) = false) := by (show _ = _; rw [beq_eq_false_iff_ne]; exact hz)
    have HZ := hidUDd hz
    clear hz
    go_wp2_with (go_at_call 176; refine (did1_any (psAt l j) _ _ _ false Bt g _ HG.out (by omega) HCT.out).mono ?_; rintro r w2 ⟨rfl, hb2⟩)
    go_roundw
    case rel => exact ⟨HB.out.trans (hb2.mono hsz), j + 1, by omega, by go_num, fun i hi => by
     by_cases e : i = j
     ·subst e; exact HZ.out
     ·exact HA.out i (by omega)⟩
    case measure => simp [intOf]; omega
  ·obtain rfl : l.length = j := by omega
   go_wp2
   go_ret
   exact ⟨.inr ⟨rfl, HA.out⟩, HB.out⟩
theorem hasB_in {l : List Ps} {g : Int} {i : Nat} (hi : i < l.length) (h : (psAt l i).e.g = g) : hasB l l.length g = true := by
 cases hh : hasB l l.length g
 ·exact absurd h (hasB_no.1 hh i hi)
 ·rfl
set_option maxRecDepth 100000 in
set_option maxHeartbeats 4000000 in
theorem has_any (a : Option Addr) (cap : Nat) (l : List Ps) (Bt : Nat) (g : Int) (w : World) (hl : l.length ≤ 1048577) (hb : Bt < w.heap.size) (hc : w.cell? ⟨Bt, 0, none⟩ = some (.int .i64 g)) (h : IsD w (.slice a l.length cap) (pastsD l)) :
  Calls Tryz.prog 175 #[.slice a l.length cap, .func (.func 176) #[] #[.pointer (some ⟨Bt, 0, none⟩)]] w fun r w' => r = .returned (.bool (hasB l l.length g)) ∧ Below w.heap.size w w' := by
 have HI := hidUDd h
 have HC := hidUDd hc
 clear h hc
 go_enter Tryz.func175, Tryz.ntmps175
 go_wp2_with fail
 refine (idx_any a cap l Bt g w hl hb HC.out HI.out).mono ?_
 rintro r w1 ⟨hR, hb1⟩
 have HB1 := hidUDd hb1
 clear hb1
 rcases hR with ⟨i, rfl, hi, hg⟩ | ⟨rfl, hn⟩
 ·have HY := hidUDd (hasB_in hi hg)
  have hi0 : (0 : Int) ≤ (i : Int) := by omega
  clear hi hg
  go_wp2
  go_ret
  exact ⟨ret_bool HY.out.symm, HB1.out⟩
 ·have HN := hidUDd (hasB_no.2 hn)
  clear hn
  go_wp2
  go_ret
  exact ⟨ret_bool HN.out.symm, HB1.out⟩
set_option maxRecDepth 100000 in
set_option maxHeartbeats 4000000 in
theorem did_any (B D : Nat) (p : Pa) (vr vp vt va vu : Value) (u : List Ev) (A1 A4 : Nat → Prop) (g : Int) (w : World) (hl : p.p.length ≤ 1048577) (h : DoR B D w vr vp vt va vu A1 A4 p u) :
  Calls Tryz.prog 125 #[.pointer (some ⟨D, 0, none⟩), .int .i64 g] w fun r w' => r = .returned (.bool (hasB p.p p.p.length g)) ∧ Below w.heap.size w w' := by
 obtain ⟨W0, hW0⟩ : ∃ V, w.alloc (.cells #[.int .i64 g] 3) = V := ⟨_, rfl⟩
 have hb0 : Below w.heap.size w W0 := hW0 ▸ (Below.refl _ w).alloc (Nat.le_refl _) _
 have HB0 := hidUDd hb0
 have BX : Bk W0 w.heap.size 3 #[.int .i64 g] := hW0 ▸ Bk.new w _ _
 have HC := hidUDd (BX.cell (i := 0) rfl)
 have hs : w.heap.size < W0.heap.size := BX.lt
 have hd := h.blk.below hb0
 have hp : IsD W0 vp (pastsD p.p) := (h.cp.past.isD).under hb0
 obtain ⟨a4, c4, rfl, _⟩ := IsD.len hp
 have HP := hidUDd hp
 have d4 := hd.cell (i := 4) rfl
 clear hb0 BX hd hp h
 go_enter Tryz.func125, Tryz.ntmps125
 go_wp2_with fail
 clear hW0 d4
 refine (has_any a4 c4 p.p w.heap.size g _ hl hs HC.out HP.out).mono ?_
 rintro r w1 ⟨rfl, hb1⟩
 have HB1 := hidUDd (HB0.out.trans (hb1.mono HB0.out.size))
 clear hb1
 go_wp2
 go_ret
 exact ⟨rfl, HB1.out⟩
end Go.Proofs.YtnccenbkpocjgaaGreat
/- A doer hears that an event is not to be. -/
namespace Go.Proofs.YtnccenbkpocjgaaGreat
open Go.RowKit
theorem hidUUh {p : Prop} (h : p) : Hid p := h
theorem evO_is {l : List Ev} {g : Int} {i : Nat} (h : evO l g = some i) : EvIs l g i := by
 unfold evO at h
 by_cases hx : ∃ i, EvIs l g i
 ·rw [dif_pos hx] at h
  cases h
  exact hx.choose_spec
 ·rw [dif_neg hx] at h
  cases h
theorem evO_no {l : List Ev} {g : Int} (h : evO l g = none) : ∀ i, i < l.length → (evAt l i).g ≠ g := fun i hi e => by
 unfold evO at h
 rw [dif_pos ⟨i, hi, e⟩] at h
 cases h
theorem OneTag.rev {l : List Ev} (h : OneTag l) : OneTag l.reverse := fun i hi j hj => by
 rw [List.length_reverse] at hi
 rw [evAt_rev l hi, evAt_rev l (by omega)]
 exact fun e => h (l.length - 1 - j) (by omega) (l.length - 1 - i) (by omega) e.symm
theorem evO_rev_no {l : List Ev} {g : Int} (h : evO l.reverse g = none) : evO l g = none := evO_none (fun i hi e => evO_no h (l.length - 1 - i) (by rw [List.length_reverse]; omega) (by rw [evAt_rev l (by omega), show l.length - 1 - (l.length - 1 - i) = i by omega]; exact e))
theorem evO_rev {l : List Ev} {g : Int} {i : Nat} (ho : OneTag l) (h : evO l.reverse g = some i) : i < l.length ∧ evO l g = some (l.length - 1 - i) := by
 obtain ⟨h1, h2⟩ := evO_is h
 rw [List.length_reverse] at h1
 rw [evAt_rev l h1] at h2
 exact ⟨h1, evO_some ho ⟨by omega, h2⟩⟩
theorem cut_rev {l : List Ev} {i : Nat} (h : i < l.length) : (l.take (l.length - 1 - i) ++ l.drop (l.length - 1 - i + 1)).reverse = l.reverse.take i ++ l.reverse.drop (i + 1) := by
 rw [List.reverse_append, List.reverse_drop, List.reverse_take, show l.length - (l.length - 1 - i + 1) = i by omega, show l.length - (l.length - 1 - i) = i + 1 by omega]
set_option maxRecDepth 100000 in
set_option maxHeartbeats 16000000 in
theorem unhear_any (B D : Nat) (p : Pa) (e : Ev) (vr vp vt va : Value) (A1 A4 : Nat → Prop) (w : World) (hw : p.wt ≤ 1048576) (hg : GoodP p) (he : e.ok = true) (hB : B ≤ w.heap.size) (h : DoR B D w vr vp vt va (.slice none 0 0) A1 A4 p.rev []) :
  Calls Tryz.prog 70 #[.pointer (some ⟨D, 0, none⟩), e.val] w fun r w' => (∃ u, r = .returned u) ∧ (∃ vr' vp' vt' va' vu' A1' A4', DoR B D w' vr' vp' vt' va' vu' A1' A4' (unhQ p e).rev (unhU p e)) ∧ Below B w w' := by
 have HG : Hid (GoodP p) := hg
 have HWT : Hid (p.wt ≤ 1048576) := hw
 have HEV : Hid (e.ok = true) := he
 obtain ⟨W0, hW0⟩ : ∃ V, w.alloc (.cells #[.int .i64 e.t, .int .i64 e.s, .int .i64 e.q, .int .i64 e.d, .int .i64 e.k, .int .i64 e.v, .int .i64 e.g] 55) = V := ⟨_, rfl⟩
 have hb0 : Below w.heap.size w W0 := hW0 ▸ (Below.refl _ w).alloc (Nat.le_refl _) _
 have HB0 := hidUUh hb0
 have HE : Hid (Bk W0 w.heap.size 55 #[.int .i64 e.t, .int .i64 e.s, .int .i64 e.q, .int .i64 e.d, .int .i64 e.k, .int .i64 e.v, .int .i64 e.g]) := hW0 ▸ Bk.new _ _ _
 have H0 := hidUUh (h.below hb0)
 have HNS : Hid (¬ (w.heap.size = D ∨ A4 w.heap.size ∨ vt.ownBlock = some w.heap.size)) := fun e1 => by
  rcases e1 with e1 | e1 | e1
  ·have := h.blk.lt; omega
  ·have := (h.cp.d4 _ e1).1.2; omega
  ·have := owns_lt h.cp.todo e1; omega
 have hs0 : w.heap.size < W0.heap.size := HE.out.lt
 have hpl : p.rev.p.length ≤ 1048577 := by have := hg.1; show p.p.length ≤ _; omega
 have HQ : Hid (∃ q L, p.back (bkK p e) = q ∧ unhU p e = L) := ⟨_, _, rfl, rfl⟩
 obtain ⟨q, L, hq0, hL0⟩ := HQ.out
 have HQL : Hid (p.back (bkK p e) = q ∧ unhU p e = L) := ⟨hq0, hL0⟩
 have hql : q.t.length ≤ 2200 := by (have h9 := unh_len (e := e) hg; rw [hq0] at h9; exact h9)
 have HON : Hid (OneTag q.t) := by (have h9 := back_one hg (bkK_le p e); rw [hq0] at h9; exact h9)
 have HQA : Hid (q.a = p.a) := by (show q.a = p.a; rw [← hq0]; rfl)
 have hqr : q.rev.t.length ≤ 1048576 := by (show q.t.reverse.length ≤ _; rw [List.length_reverse]; omega)
 have hqa : q.rev.a.length ≤ 1048577 := by (show q.a.length ≤ _; rw [HQA.out]; have := hg.1; omega)
 have HAS : Hid (Asc q.rev.a) := by (show Asc q.a; rw [HQA.out]; exact hg.2.2.2.2.2)
 clear hb0 hg hw he h HQ hq0 hL0
 have e0 := HE.out.cell (i := 0) rfl
 have e1 := HE.out.cell (i := 1) rfl
 have e2 := HE.out.cell (i := 2) rfl
 have e3 := HE.out.cell (i := 3) rfl
 have e4 := HE.out.cell (i := 4) rfl
 have e5 := HE.out.cell (i := 5) rfl
 have e6 := HE.out.cell (i := 6) rfl
 unfold Ev.val
 go_enter Tryz.func70, Tryz.ntmps70
 go_wp2_with fail
 clear hW0
 clear e0 e1 e2 e3 e4 e5 e6
 refine (did_any B D p.rev vr vp vt va (.slice none 0 0) [] A1 A4 e.g W0 hpl H0.out).mono ?_
 rintro r w1 ⟨rfl, hb1⟩
 have HE1 := hidUUh (HE.out.below hb1)
 have HB1 := hidUUh (HB0.out.trans (hb1.mono HB0.out.size))
 have hs1 : W0.heap.size ≤ w1.heap.size := hb1.size
 have H1 := hidUUh (H0.out.below hb1)
 clear hb1
 cases hh : hasB p.p p.p.length e.g
 case false =>
  have hh' : hasB p.rev.p p.rev.p.length e.g = false := hh
  rw [hh']
  have h1 : p = q := by (have h9 := HQL.out.1; rw [bkK_no hh, back_all] at h9; exact h9)
  have h2 : [] = L := by (have h9 := HQL.out.2; unfold unhU at h9; rw [bkK_no hh, undo_all] at h9; exact h9)
  have HD2 : Hid (DoR B D w1 vr vp vt va (.slice none 0 0) A1 A4 q.rev L) := by (rw [← h1, ← h2]; exact H1.out)
  have HE2 := HE1
  have HB2 : Hid (Below B w w1) := HB1.out.mono hB
  have hsz2 : B ≤ w1.heap.size := Nat.le_trans hB HB2.out.size
  clear hh hh' h1 h2
  have e6 := HE2.out.cell (i := 6) rfl
  go_wp2_with fail
  clear e6
  refine (unplan_any B D vr vp vt va (.slice none 0 0) A1 A4 q.rev L e.g w1 hqr HON.out.rev HD2.out).mono ?_
  rintro r w3 hR
  rcases hR with ⟨hN, rfl, hb3⟩ | ⟨i, hN, rfl, vt3, hd3, ht3⟩
  ·have HEQ := hidUUh (endQ_none (evO_rev_no hN))
   have HE3 := hidUUh (HE2.out.below hb3)
   have HD3 := hidUUh (HD2.out.below hb3)
   have HB3 : Hid (Below B w w3) := HB2.out.trans (hb3.mono hsz2)
   have hsz3 : B ≤ w3.heap.size := Nat.le_trans hB HB3.out.size
   clear hb3 hN
   have e6 := HE3.out.cell (i := 6) rfl
   go_wp2_with fail
   clear e6
   refine (addAnti_any B D vr vp vt va (.slice none 0 0) A1 A4 q.rev L e.g w3 hqa HAS.out hsz3 HD3.out).mono ?_
   rintro r w4 ⟨⟨u4, rfl⟩, ⟨va4, hd4⟩, hb4⟩
   have HR : Hid ((∃ vr' vp' vt' va' vu' A1' A4', DoR B D w4 vr' vp' vt' va' vu' A1' A4' (unhQ p e).rev (unhU p e)) ∧ Below B w w4) := by
    refine ⟨?_, HB3.out.trans hb4⟩
    unfold unhQ
    rw [HQL.out.1, HQL.out.2, HEQ.out]
    exact ⟨_, _, _, _, _, _, _, hd4⟩
   clear hd4 hb4
   go_wp2
   go_end0
   exact ⟨⟨_, rfl⟩, HR.out⟩
  ·obtain ⟨hi, hq⟩ := evO_rev HON.out hN
   have HEQ := hidUUh (endQ_some hq)
   have HR : Hid ((∃ vr' vp' vt' va' vu' A1' A4', DoR B D w3 vr' vp' vt' va' vu' A1' A4' (unhQ p e).rev (unhU p e)) ∧ Below B w w3) := by
    refine ⟨?_, HB2.out.trans (ht3.to_below (fun k hk => ?_) hsz2)⟩
    ·unfold unhQ
     rw [HQL.out.1, HQL.out.2, HEQ.out]
     have e9 : (q.cutT (q.t.length - 1 - i)).rev = ⟨q.rev.n, q.rev.st, q.rev.p, q.rev.t.take i ++ q.rev.t.drop (i + 1), q.rev.a⟩ := by
      show (⟨q.n, q.st, q.p, (q.t.take (q.t.length - 1 - i) ++ q.t.drop (q.t.length - 1 - i + 1)).reverse, q.a⟩ : Pa) = _
      rw [cut_rev hi]
      rfl
     rw [e9]
     exact ⟨_, _, _, _, _, _, _, hd3⟩
    ·rcases hk with hk | hk
     ·exact hk ▸ HD2.out.lo
     ·exact (World.ownsRow.lt HD2.out.cp.todo k hk).1
   clear hd3 ht3 hN hq hi
   go_wp2
   go_end0
   exact ⟨⟨_, rfl⟩, HR.out⟩
 case true =>
  have hh' : hasB p.rev.p p.rev.p.length e.g = true := hh
  rw [hh']
  have HQ1 : Hid (p.back (cutK p.p e) = q ∧ undoL p.p (cutK p.p e) = L) := by
   refine ⟨?_, ?_⟩
   ·have h9 := HQL.out.1; rw [bkK_yes hh] at h9; exact h9
   ·have h9 := HQL.out.2; unfold unhU at h9; rw [bkK_yes hh] at h9; exact h9
  clear hh hh'
  have e0 := HE1.out.cell (i := 0) rfl
  have e1 := HE1.out.cell (i := 1) rfl
  have e2 := HE1.out.cell (i := 2) rfl
  have e3 := HE1.out.cell (i := 3) rfl
  have e4 := HE1.out.cell (i := 4) rfl
  have e5 := HE1.out.cell (i := 5) rfl
  have e6 := HE1.out.cell (i := 6) rfl
  go_wp2_with fail
  clear e0 e1 e2 e3 e4 e5 e6
  refine (goBackF B D p e vr vp vt va A1 A4 w1 HWT.out HG.out HEV.out (by omega) (fun k => k = D ∨ A4 k ∨ vt.ownBlock = some k) (.inl rfl) (fun q hq => .inr (.inl hq)) (fun q hq => .inr (.inr hq)) H1.out).mono ?_
  rintro r w2 ⟨⟨u2, rfl⟩, ⟨vr2, vp2, vt2, vu2, C1, C4, hd⟩, hb2, ht2⟩
  rw [HQ1.out.1, HQ1.out.2] at hd
  have HE2 := hidUUh (HE1.out.turns ht2 HNS.out)
  have HB2 : Hid (Below B w w2) := (HB1.out.mono hB).trans hb2
  have HD2 := hidUUh hd
  have hsz2 : B ≤ w2.heap.size := Nat.le_trans hB HB2.out.size
  clear hd hb2 ht2
  have e6 := HE2.out.cell (i := 6) rfl
  go_wp2_with fail
  clear e6
  refine (unplan_any B D vr2 vp2 vt2 va vu2 C1 C4 q.rev L e.g w2 hqr HON.out.rev HD2.out).mono ?_
  rintro r w3 hR
  rcases hR with ⟨hN, rfl, hb3⟩ | ⟨i, hN, rfl, vt3, hd3, ht3⟩
  ·have HEQ := hidUUh (endQ_none (evO_rev_no hN))
   have HE3 := hidUUh (HE2.out.below hb3)
   have HD3 := hidUUh (HD2.out.below hb3)
   have HB3 : Hid (Below B w w3) := HB2.out.trans (hb3.mono hsz2)
   have hsz3 : B ≤ w3.heap.size := Nat.le_trans hB HB3.out.size
   clear hb3 hN
   have e6 := HE3.out.cell (i := 6) rfl
   go_wp2_with fail
   clear e6
   refine (addAnti_any B D vr2 vp2 vt2 va vu2 C1 C4 q.rev L e.g w3 hqa HAS.out hsz3 HD3.out).mono ?_
   rintro r w4 ⟨⟨u4, rfl⟩, ⟨va4, hd4⟩, hb4⟩
   have HR : Hid ((∃ vr' vp' vt' va' vu' A1' A4', DoR B D w4 vr' vp' vt' va' vu' A1' A4' (unhQ p e).rev (unhU p e)) ∧ Below B w w4) := by
    refine ⟨?_, HB3.out.trans hb4⟩
    unfold unhQ
    rw [HQL.out.1, HQL.out.2, HEQ.out]
    exact ⟨_, _, _, _, _, _, _, hd4⟩
   clear hd4 hb4
   go_wp2
   go_end0
   exact ⟨⟨_, rfl⟩, HR.out⟩
  ·obtain ⟨hi, hq⟩ := evO_rev HON.out hN
   have HEQ := hidUUh (endQ_some hq)
   have HR : Hid ((∃ vr' vp' vt' va' vu' A1' A4', DoR B D w3 vr' vp' vt' va' vu' A1' A4' (unhQ p e).rev (unhU p e)) ∧ Below B w w3) := by
    refine ⟨?_, HB2.out.trans (ht3.to_below (fun k hk => ?_) hsz2)⟩
    ·unfold unhQ
     rw [HQL.out.1, HQL.out.2, HEQ.out]
     have e9 : (q.cutT (q.t.length - 1 - i)).rev = ⟨q.rev.n, q.rev.st, q.rev.p, q.rev.t.take i ++ q.rev.t.drop (i + 1), q.rev.a⟩ := by
      show (⟨q.n, q.st, q.p, (q.t.take (q.t.length - 1 - i) ++ q.t.drop (q.t.length - 1 - i + 1)).reverse, q.a⟩ : Pa) = _
      rw [cut_rev hi]
      rfl
     rw [e9]
     exact ⟨_, _, _, _, _, _, _, hd3⟩
    ·rcases hk with hk | hk
     ·exact hk ▸ HD2.out.lo
     ·exact (World.ownsRow.lt HD2.out.cp.todo k hk).1
   clear hd3 ht3 hN hq hi
   go_wp2
   go_end0
   exact ⟨⟨_, rfl⟩, HR.out⟩
end Go.Proofs.YtnccenbkpocjgaaGreat
