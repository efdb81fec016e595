/- N4w, KGp, KMl, XSz -/
import Derived.Test.YthfhibnnkpbeiaaGreatExactKernelNewG22
import Derived.Test.YthfhibnnkpbeiaaGreatExactKernelNewLInsG
import Derived.Test.YthfhibnnkpbeiaaGreatExactKernelNewG27
import Derived.Test.YthfhibnnkpbeiaaGreatExactKernelNewG14
import Derived.Deep.RegionHeld3
import Derived.Test.YthfhibnnkpbeiaaGreatExactKernelNewG01
import Derived.Test.YthfhibnnkpbeiaaGreatExactKernelNewLInsD
import Derived.Test.YthfhibnnkpbeiaaGreatExactKernelNewG08
import Derived.Test.YthfhibnnkpbeiaaGreatExactKernelNewLTPsE
import Derived.Test.YthfhibnnkpbeiaaGreatExactKernelNewLTPsF
import Derived.Test.YthfhibnnkpbeiaaGreatExactKernelNewG11
import Derived.Test.YthfhibnnkpbeiaaGreatExactKernelNewG02
import Derived.Laws.OwnMore
import Derived.WalkSmall
import Derived.BigRegion
import Derived.Deep.Cut
import Derived.Test.YthfhibnnkpbeiaaGreatExactKernelNewG07
import Derived.Test.YthfhibnnkpbeiaaGreatExactKernelNewG06
/- The specification's l4new. -/
namespace Go.Proofs.YthfhibnnkpbeiaaGreat
open Go.RowKit
def insL (l : List Ev) (e : Ev) : List Ev := l.take (insP l e) ++ e :: l.drop (insP l e)
def stN (lp : Nat) (l : List Ev) (e : Ev) : List Ev := if e.d = (lp : Int) then insL l e else l
def newL (lp : Nat) (es : List Ev) : List Ev := es.foldl (stN lp) []
theorem stN_len (lp : Nat) (l : List Ev) (e : Ev) : (stN lp l e).length ≤ l.length + 1 := by
 unfold stN insL
 have := (insP_at l e).1
 split
 ·rw [List.length_append, List.length_cons, List.length_take, List.length_drop]; omega
 ·omega
theorem foldN_len (lp : Nat) : ∀ (es l : List Ev), (es.foldl (stN lp) l).length ≤ l.length + es.length
 | [], l => by simp
 | e :: es, l => by
  have h1 := foldN_len lp es (stN lp l e)
  have h2 := stN_len lp l e
  simp only [List.foldl_cons, List.length_cons]
  omega
theorem newL_len (lp : Nat) (es : List Ev) : (newL lp es).length ≤ es.length := by
 have := foldN_len lp es []
 simpa [newL] using this
theorem newL_snoc (lp : Nat) (es : List Ev) {k : Nat} (h : k < es.length) : newL lp (es.take (k + 1)) = stN lp (newL lp (es.take k)) (evAt es k) := by
 unfold newL
 rw [List.take_succ_eq_append_getElem h, List.foldl_append]
 simp [evAt, h]
def newP (m : Md) (lp : Nat) : Pa := ⟨(lp : Int), firstS m (lp : Int), [], newL lp m.e, []⟩
set_option maxRecDepth 100000 in
set_option maxHeartbeats 16000000 in
theorem l4new_any (x : Value) (m : Md) (lp : Nat) (w : World) (hlp : lp < m.i.length) (he9 : m.e.length ≤ 100000) (h : IsM w x m) :
  Calls Tryz.prog 68 #[x, .int .i64 (lp : Int)] w fun r w' => (∃ y, r = .returned y ∧ PartF (fun k => w.heap.size ≤ k ∧ k < w'.heap.size) w' y (newP m lp)) ∧ Below w.heap.size w w' := by
 have HM : Hid (IsM w x m) := h
 obtain ⟨vi, vh, vs, rfl, ⟨ai, ci, rfl, _⟩, ⟨ah, ch, rfl, _⟩, ⟨ae, ce, rfl, _, _, he3⟩⟩ := h
 have HE : Hid (m.e = [] ∨ ∃ b off, ae = some ⟨b, off, none⟩ ∧ EvsAt w b off m.e) := he3
 clear he3
 obtain ⟨W0, hW0⟩ : ∃ W0, (w.alloc (.cells #[.int .i64 m.n, .int .i64 m.s, .slice ai m.i.length ci, .slice ah m.h.length ch, .slice ae m.e.length ce, .int .i64 m.z] 31)).alloc (.cells #[.int .i64 0, .slice none 0 0, .int .i64 0, .int .i64 0, .slice none 0 0, .slice none 0 0, .slice none 0 0] 70) = W0 := ⟨_, rfl⟩
 have HB0 : Hid (Below w.heap.size w W0) := by rw [← hW0]; exact ((Below.refl _ w).alloc (Nat.le_refl _) _).alloc (by simp) _
 have BX : Hid (Bk W0 w.heap.size 31 #[.int .i64 m.n, .int .i64 m.s, .slice ai m.i.length ci, .slice ah m.h.length ch, .slice ae m.e.length ce, .int .i64 m.z]) := by rw [← hW0]; exact (Bk.new w _ _).alloc _
 have BZ : Hid (Bk W0 (w.heap.size + 1) 70 #[.int .i64 0, .slice none 0 0, .int .i64 0, .int .i64 0, .slice none 0 0, .slice none 0 0, .slice none 0 0]) := by rw [← hW0]; exact Bk.newAt (by simp) _ _
 have hz0 : W0.heap.size = w.heap.size + 1 + 1 := by rw [← hW0]; simp
 have x0 := BX.out.cell (i := 0) rfl
 have x1 := BX.out.cell (i := 1) rfl
 have x2 := BX.out.cell (i := 2) rfl
 have x3 := BX.out.cell (i := 3) rfl
 have x4 := BX.out.cell (i := 4) rfl
 have x5 := BX.out.cell (i := 5) rfl
 go_enter Tryz.func68, Tryz.ntmps68
 go_wp2_with fail
 clear hW0 x0 x1 x2 x3 x4 x5
 refine (sBegin _ m lp _ hlp (HM.out.below HB0.out)).mono ?_
 rintro r w1 ⟨y, rfl, hb1, vr, rfl, hrow⟩
 have HRO : Hid (OwnD w1 (fun q => W0.heap.size ≤ q ∧ q < w1.heap.size) vr (intsD [intAt m.i lp, 0])) := RowF.own hrow
 have HR1 : Hid (IsD w1 vr (intsD [intAt m.i lp, 0])) := HRO.out.isD
 obtain ⟨ar, cr, hvr⟩ : ∃ ar cr, vr = .slice ar 2 cr := by
  obtain ⟨a', c', e', _⟩ := IsD.len HR1.out
  exact ⟨a', c', e'⟩
 subst hvr
 have HB1 : Hid (Below w.heap.size w w1) := HB0.out.trans (hb1.mono HB0.out.size)
 have X1 : Hid (Bk w1 w.heap.size 31 #[.int .i64 m.n, .int .i64 m.s, .slice ai m.i.length ci, .slice ah m.h.length ch, .slice ae m.e.length ce, .int .i64 m.z]) := BX.out.below hb1
 have Z1 : Hid (Bk w1 (w.heap.size + 1) 70 #[.int .i64 0, .slice none 0 0, .int .i64 0, .int .i64 0, .slice none 0 0, .slice none 0 0, .slice none 0 0]) := BZ.out.below hb1
 have hs1 : W0.heap.size ≤ w1.heap.size := hb1.size
 clear hb1 hrow BX BZ
 obtain ⟨W2, hW2⟩ : ∃ V, w1.alloc (.cells #[.int .i64 (lp : Int), .slice ar 2 cr, .int .i64 0, .int .i64 0, .slice none 0 0, .slice none 0 0, .slice none 0 0] 70) = V := ⟨_, rfl⟩
 have hb2 : Below w1.heap.size w1 W2 := hW2 ▸ (Below.refl _ w1).alloc (Nat.le_refl _) _
 have HB12 : Hid (Below w1.heap.size w1 W2) := hb2
 have Q2 : Hid (Bk W2 w1.heap.size 70 #[.int .i64 (lp : Int), .slice ar 2 cr, .int .i64 0, .int .i64 0, .slice none 0 0, .slice none 0 0, .slice none 0 0]) := hW2 ▸ Bk.new w1 _ _
 have X2 : Hid (Bk W2 w.heap.size 31 #[.int .i64 m.n, .int .i64 m.s, .slice ai m.i.length ci, .slice ah m.h.length ch, .slice ae m.e.length ce, .int .i64 m.z]) := X1.out.below hb2
 have Z2 : Hid (Bk W2 (w.heap.size + 1) 70 #[.int .i64 0, .slice none 0 0, .int .i64 0, .int .i64 0, .slice none 0 0, .slice none 0 0, .slice none 0 0]) := Z1.out.below hb2
 have HB2 : Hid (Below w.heap.size w W2) := HB1.out.trans (hb2.mono HB1.out.size)
 have hs2 : W2.heap.size = w1.heap.size + 1 := by rw [← hW2]; simp
 have HW2 : Hid (w1.alloc (.cells #[.int .i64 (lp : Int), .slice ar 2 cr, .int .i64 0, .int .i64 0, .slice none 0 0, .slice none 0 0, .slice none 0 0] 70) = W2) := hW2
 clear hb2 X1 Z1 hW2
 go_wp2_with fail
 rw [HW2.out]
 clear HW2
 go_loopw [6] (fun i wr => ∃ (k : Nat) (at9 : Option Addr) (ct9 : Nat), k ≤ m.e.length ∧ i = .int .i64 k ∧ Turns (fun q => q = w1.heap.size) W2 wr ∧ Bk wr w1.heap.size 70 #[.int .i64 (lp : Int), .slice ar 2 cr, .int .i64 0, .int .i64 0, .slice none 0 0, .slice at9 (newL lp (m.e.take k)).length ct9, .slice none 0 0] ∧ OwnR W2.heap.size wr (.slice at9 (newL lp (m.e.take k)).length ct9) (newL lp (m.e.take k))) (fun i _ => m.e.length - (intOf i).toNat)
 case atStart => exact ⟨0, none, 0, Nat.zero_le _, rfl, Turns.refl _ _, Q2.out, World.ownsRow_nil W2 _ _ 7⟩
 case round =>
  obtain ⟨k, at9, ct9, hk, rfl, hT, hQ, hO⟩ := hrel
  have hsr := hT.size
  have hBr : Below w.heap.size w wr := HB2.out.trans (hT.to_below (fun q hq => by omega) HB2.out.size)
  have HBr : Hid (Below w.heap.size w wr) := hBr
  have HT : Hid (Turns (fun q => q = w1.heap.size) W2 wr) := hT
  have hXr : Bk wr w.heap.size 31 #[.int .i64 m.n, .int .i64 m.s, .slice ai m.i.length ci, .slice ah m.h.length ch, .slice ae m.e.length ce, .int .i64 m.z] := X2.out.turns hT (by omega)
  have hll := newL_len lp (m.e.take k)
  rw [List.length_take] at hll
  by_cases hlt : k < m.e.length
  ·have hsn := newL_snoc lp m.e hlt
   obtain ⟨L, hL⟩ : ∃ L, newL lp (m.e.take k) = L := ⟨_, rfl⟩
   rw [hL] at hsn hQ hO hll
   clear hL
   have HQ : Hid (Bk wr w1.heap.size 70 #[.int .i64 (lp : Int), .slice ar 2 cr, .int .i64 0, .int .i64 0, .slice none 0 0, .slice at9 L.length ct9, .slice none 0 0]) := hQ
   have HO : Hid (OwnR W2.heap.size wr (.slice at9 L.length ct9) L) := hO
   have HLE : Hid (IsEvs wr (.slice at9 L.length ct9) L) := (RowF.of_owns (cellsL_length _) hO).own.isD.isEvs
   obtain ⟨b, off, rfl, hev⟩ := HE.out.resolve_left (by intro e; rw [e] at hlt; simp at hlt)
   have hbr : b < wr.heap.size := Nat.lt_of_lt_of_le hev.1 hBr.size
   obtain ⟨f0, f1, f2, f3, f4, f5, f6⟩ := (hev.2 k hlt).below hBr hev.1
   have HXr : Hid (Bk wr w.heap.size 31 #[.int .i64 m.n, .int .i64 m.s, .slice ai m.i.length ci, .slice ah m.h.length ch, .slice (some ⟨b, off, none⟩) m.e.length ce, .int .i64 m.z]) := hXr
   have hkn : (k : Int) < (m.e.length : Int) := by omega
   have y4 := hXr.cell (i := 4) rfl
   clear hT hQ hO hBr hXr
   obtain ⟨e, hee⟩ : ∃ e, evAt m.e k = e := ⟨_, rfl⟩
   rw [hee] at hsn f0 f1 f2 f3 f4 f5 f6
   clear hee
   by_cases hd : e.d = (lp : Int)
   ·have hdb : (e.d == (lp : Int)) = true := by simpa using hd
    have HSN : Hid (newL lp (m.e.take (k + 1)) = insL L e) := by (show _ = _; rw [hsn]; unfold stN; rw [if_pos hd])
    clear hsn hd
    go_upto_region 6 with fail
    clear y4 hdb
    refine wp_region_z 9 (fun W => W.cell? ⟨w1.heap.size, 5, none⟩ = some (.slice at9 L.length ct9) ∧ W.cell? ⟨w.heap.size, 4, none⟩ = some (.slice (some ⟨b, off, none⟩) m.e.length ce) ∧ W.cell? ⟨b, off + k * 7, none⟩ = some (.int .i64 e.t) ∧ W.cell? ⟨b, off + k * 7 + 1, none⟩ = some (.int .i64 e.s) ∧ W.cell? ⟨b, off + k * 7 + 2, none⟩ = some (.int .i64 e.q) ∧ W.cell? ⟨b, off + k * 7 + 3, none⟩ = some (.int .i64 e.d) ∧ W.cell? ⟨b, off + k * 7 + 4, none⟩ = some (.int .i64 e.k) ∧ W.cell? ⟨b, off + k * 7 + 5, none⟩ = some (.int .i64 e.v) ∧ W.cell? ⟨b, off + k * 7 + 6, none⟩ = some (.int .i64 e.g)) (by kernel_rfl) ⟨HQ.out.drew.cell rfl, HXr.out.drew.cell rfl, f0, f1, f2, f3, f4, f5, f6⟩ (fun hHeld => ?_)
    refine wpAnyZ_take (i := 0) (oi := { dst := some 27, op := Op.fieldAddr 70 (Operand.tmp 5) 3, type := 0, pos := _, after := _, guard := none }) (v := .pointer (some ⟨w1.heap.size, 5, none⟩)) 0 [] rfl (by kernel_rfl) (by kernel_rfl) (by kernel_rfl) (by kernel_rfl) (by kernel_rfl) (fun _ _ _ h => h) (Or.inl ⟨by rfl, ?_⟩) (by assumption) ?_
    ·intro wX hSw
     try dsimp only at hSw
     go_simp
     try exact IntWalk.i64_in _ (by omega)
    try simp only [Act.put, List.setIfInBounds_toArray, List.set_cons_zero, List.set_cons_succ]
    refine wpAnyZ_take (i := 1) (oi := { dst := some 28, op := Op.load 29 (Operand.tmp 27), type := 29, pos := _, after := _, guard := none }) (v := .slice at9 L.length ct9) 1 [] rfl (by kernel_rfl) (by kernel_rfl) (by kernel_rfl) (by kernel_rfl) (by kernel_rfl) (fun _ _ _ h => h) (Or.inl ⟨by rfl, ?_⟩) (by assumption) ?_
    ·intro wX hSw
     try dsimp only at hSw
     go_simp
     try exact IntWalk.i64_in _ (by omega)
    try simp only [Act.put, List.setIfInBounds_toArray, List.set_cons_zero, List.set_cons_succ]
    refine wpAnyZ_take (i := 2) (oi := { dst := some 29, op := Op.fieldAddr 31 (Operand.tmp 2) 4, type := 0, pos := _, after := _, guard := none }) (v := .pointer (some ⟨w.heap.size, 4, none⟩)) 2 [] rfl (by kernel_rfl) (by kernel_rfl) (by kernel_rfl) (by kernel_rfl) (by kernel_rfl) (fun _ _ _ h => h) (Or.inl ⟨by rfl, ?_⟩) (by assumption) ?_
    ·intro wX hSw
     try dsimp only at hSw
     go_simp
     try exact IntWalk.i64_in _ (by omega)
    try simp only [Act.put, List.setIfInBounds_toArray, List.set_cons_zero, List.set_cons_succ]
    refine wpAnyZ_take (i := 3) (oi := { dst := some 30, op := Op.load 29 (Operand.tmp 29), type := 29, pos := _, after := _, guard := none }) (v := .slice (some ⟨b, off, none⟩) m.e.length ce) 3 [] rfl (by kernel_rfl) (by kernel_rfl) (by kernel_rfl) (by kernel_rfl) (by kernel_rfl) (fun _ _ _ h => h) (Or.inl ⟨by rfl, ?_⟩) (by assumption) ?_
    ·intro wX hSw
     try dsimp only at hSw
     go_simp
     try exact IntWalk.i64_in _ (by omega)
    try simp only [Act.put, List.setIfInBounds_toArray, List.set_cons_zero, List.set_cons_succ]
    refine wpAnyZ_take (i := 4) (oi := { dst := some 31, op := Op.move (Operand.tmp 6), type := 3, pos := _, after := _, guard := none }) (v := .int .i64 (k : Int)) 4 [] rfl (by kernel_rfl) (by kernel_rfl) (by kernel_rfl) (by kernel_rfl) (by kernel_rfl) (fun _ _ _ h => h) (Or.inl ⟨by rfl, ?_⟩) (by assumption) ?_
    ·intro wX hSw
     try dsimp only at hSw
     go_simp
     try exact IntWalk.i64_in _ (by omega)
    try simp only [Act.put, List.setIfInBounds_toArray, List.set_cons_zero, List.set_cons_succ]
    refine wpAnyZ_take (i := 5) (oi := { dst := some 32, op := Op.indexAddr 29 (Operand.tmp 30) (Operand.tmp 31), type := 0, pos := _, after := _, guard := none }) (v := .pointer (some ⟨b, off + k * 7, none⟩)) 5 [] rfl (by kernel_rfl) (by kernel_rfl) (by kernel_rfl) (by kernel_rfl) (by kernel_rfl) (fun _ _ _ h => h) (Or.inl ⟨by rfl, ?_⟩) (by assumption) ?_
    ·intro wX hSw
     try dsimp only at hSw
     go_simp
     try exact IntWalk.i64_in _ (by omega)
    try simp only [Act.put, List.setIfInBounds_toArray, List.set_cons_zero, List.set_cons_succ]
    refine wpAnyZ_take (i := 6) (oi := { dst := some 33, op := Op.load 99 (Operand.tmp 32), type := 99, pos := _, after := _, guard := none }) (v := .agg #[.int .i64 e.t, .int .i64 e.s, .int .i64 e.q, .int .i64 e.d, .int .i64 e.k, .int .i64 e.v, .int .i64 e.g]) 6 [] rfl (by kernel_rfl) (by kernel_rfl) (by kernel_rfl) (by kernel_rfl) (by kernel_rfl) (fun _ _ _ h => h) (Or.inl ⟨by rfl, ?_⟩) (by assumption) ?_
    ·intro wX hSw
     try dsimp only at hSw
     go_simp
     try exact IntWalk.i64_in _ (by omega)
    try simp only [Act.put, List.setIfInBounds_toArray, List.set_cons_zero, List.set_cons_succ]
    refine wpAnyZ_ready (rs := [7]) (by kernel_rfl) (by simp) ?_
    refine AllReadyZ.cons (o := { dst := some 34, op := Op.call { callee := Callee.value (Operand.func 95), args := #[Operand.tmp 28, Operand.tmp 33], argTypes := #[29, 99] }, type := 29, pos := _, after := _, guard := none }) rfl (fun K hK => ?_) AllReadyZ.nil
    go_simp
    refine (insert_any _ L e wr.drew (by omega) (HLE.out.below (Below.refl _ wr).drew)).mono ?_
    rintro r w5 ⟨ip, yi, rfl, hia, ho, hb⟩
    have HB5 : Hid (Below wr.heap.size wr w5) := (Below.refl _ wr).drew.trans hb
    have HAT : Hid (ip = insP L e) := hia.is
    have Q5 : Hid (Bk w5 w1.heap.size 70 #[.int .i64 (lp : Int), .slice ar 2 cr, .int .i64 0, .int .i64 0, .slice none 0 0, .slice at9 L.length ct9, .slice none 0 0]) := HQ.out.below HB5.out
    have X5 : Hid (Bk w5 w.heap.size 31 #[.int .i64 m.n, .int .i64 m.s, .slice ai m.i.length ci, .slice ah m.h.length ch, .slice (some ⟨b, off, none⟩) m.e.length ce, .int .i64 m.z]) := HXr.out.below HB5.out
    have HO5 : Hid (OwnR wr.heap.size w5 yi (L.take ip ++ e :: L.drop ip)) := ho
    obtain ⟨an, cn, rfl⟩ := owns_slice ho
    have g0 := (HB5.out.cell (p := ⟨b, off + k * 7, none⟩) hbr).trans f0
    have g1 := (HB5.out.cell (p := ⟨b, off + k * 7 + 1, none⟩) hbr).trans f1
    have g2 := (HB5.out.cell (p := ⟨b, off + k * 7 + 2, none⟩) hbr).trans f2
    have g3 := (HB5.out.cell (p := ⟨b, off + k * 7 + 3, none⟩) hbr).trans f3
    have g4 := (HB5.out.cell (p := ⟨b, off + k * 7 + 4, none⟩) hbr).trans f4
    have g5 := (HB5.out.cell (p := ⟨b, off + k * 7 + 5, none⟩) hbr).trans f5
    have g6 := (HB5.out.cell (p := ⟨b, off + k * 7 + 6, none⟩) hbr).trans f6
    clear hia ho hb
    obtain ⟨ni, hni⟩ : ∃ ni, (L.take ip ++ e :: L.drop ip).length = ni := ⟨_, rfl⟩
    have HNI : Hid ((L.take ip ++ e :: L.drop ip).length = ni) := hni
    rw [hni]
    clear hni
    try go_simp
    refine hK.out _ _ ⟨Q5.out.cell rfl, X5.out.cell rfl, g0, g1, g2, g3, g4, g5, g6⟩ (fun hHeld => ?_)
    clear hK K
    try simp only [Act.put, List.setIfInBounds_toArray, List.set_cons_zero, List.set_cons_succ]
    refine wpAnyZ_take (i := 8) (oi := { dst := some 35, op := Op.fieldAddr 70 (Operand.tmp 5) 3, type := 0, pos := _, after := _, guard := none }) (v := .pointer (some ⟨w1.heap.size, 5, none⟩)) 8 [] rfl (by kernel_rfl) (by kernel_rfl) (by kernel_rfl) (by kernel_rfl) (by kernel_rfl) (fun _ _ _ h => h) (Or.inl ⟨by rfl, ?_⟩) (by assumption) ?_
    ·intro wX hSw
     try dsimp only at hSw
     go_simp
     try exact IntWalk.i64_in _ (by omega)
    try simp only [Act.put, List.setIfInBounds_toArray, List.set_cons_zero, List.set_cons_succ]
    refine wpAnyZ_ready (rs := [9]) (by kernel_rfl) (by simp) ?_
    refine AllReadyZ.last (o := { dst := none, op := Op.store 29 (Operand.tmp 35) (Operand.tmp 34), type := 0, pos := _, after := _, guard := none }) rfl (fun K hK => ?_)
    have q5 := Q5.out.cell (i := 5) rfl
    have qf := Q5.out.free
    obtain ⟨X6, hX6⟩ : ∃ X6, w5.setCell ⟨w1.heap.size, 5, none⟩ (.slice an ni cn) = X6 := ⟨_, rfl⟩
    have hP := Q5.out.put 5 (.slice an ni cn)
    have ht := put1_turns w5 w1.heap.size 5 (.slice an ni cn)
    rw [hX6] at hP ht
    have HX6 : Hid _ := hX6
    have Q6 : Hid (Bk X6 w1.heap.size 70 #[.int .i64 (lp : Int), .slice ar 2 cr, .int .i64 0, .int .i64 0, .slice none 0 0, .slice an ni cn, .slice none 0 0]) := hP
    have HT6 : Hid (Turns (fun q => q = w1.heap.size) w5 X6) := ht
    clear hX6 hP ht
    go_simp
    clear q5 qf
    rw [HX6.out]
    refine hK.out _ _ ?_
    clear hK K
    try simp only [Act.put, List.setIfInBounds_toArray, List.set_cons_zero, List.set_cons_succ]
    refine wpAnyZ_done (by kernel_rfl) ?_ _
    clear hHeld
    have hz5 := HB5.out.size
    have hz6 := HT6.out.size
    have HT9 : Hid (Turns (fun q => q = w1.heap.size) W2 X6) := (HT.out.trans (Turns.of_below HB5.out)).trans HT6.out
    have HO6 : Hid (OwnR W2.heap.size X6 (.slice an ni cn) (L.take ip ++ e :: L.drop ip)) := by
     have h9 := HO5.out
     rw [HNI.out] at h9
     exact OwnR.mono (owns_turns h9 HT6.out (fun q hq e1 => by have := row_ge h9 hq; omega)) (by omega)
    have HSN2 : Hid (newL lp (m.e.take (k + 1)) = L.take ip ++ e :: L.drop ip) := by (show _ = _; rw [HSN.out, HAT.out]; rfl)
    go_wp2
    go_roundw
    case rel => exact ⟨k + 1, an, cn, by omega, by go_num, HT9.out, by rw [HSN2.out, HNI.out]; exact Q6.out, by rw [HSN2.out, HNI.out]; exact HO6.out⟩
    case measure => simp [intOf]; omega
   ·have hdb : (e.d == (lp : Int)) = false := by simpa using hd
    have HSN : Hid (newL lp (m.e.take (k + 1)) = L) := by (show _ = _; rw [hsn]; unfold stN; rw [if_neg hd])
    clear hsn hd
    go_wp2
    go_roundw
    case rel => exact ⟨k + 1, at9, ct9, by omega, by go_num, HT.out, by rw [HSN.out]; exact HQ.out, by rw [HSN.out]; exact HO.out⟩
    case measure => simp [intOf]; omega
  ·obtain rfl : m.e.length = k := by omega
   rw [List.take_length] at hQ hO hll
   have y4 := hXr.cell (i := 4) rfl
   have Q4 : Hid (Bk wr w1.heap.size 70 #[.int .i64 (lp : Int), .slice ar 2 cr, .int .i64 0, .int .i64 0, .slice none 0 0, .slice at9 (newL lp m.e).length ct9, .slice none 0 0]) := hQ
   have Z4 : Hid (Bk wr (w.heap.size + 1) 70 #[.int .i64 0, .slice none 0 0, .int .i64 0, .int .i64 0, .slice none 0 0, .slice none 0 0, .slice none 0 0]) := Z2.out.turns hT (by omega)
   have HO : Hid (OwnR W2.heap.size wr (.slice at9 (newL lp m.e).length ct9) (newL lp m.e)) := hO
   have HBXS : Hid (w1.heap.size ≤ wr.heap.size) := (by have h9 := hT.size; omega : w1.heap.size ≤ wr.heap.size)
   have HR4 : Hid (OwnD wr (fun q => W0.heap.size ≤ q ∧ q < w1.heap.size) (.slice ar 2 cr) (intsD [intAt m.i lp, 0])) := (HRO.out.turns (S := fun q => q = w1.heap.size) (Turns.of_below HB12.out) (fun q hq e1 => by omega)).turns hT (fun q hq e1 => by omega)
   clear hT hQ hO hBr
   have q0 := Q4.out.cell (i := 0) rfl
   have q1 := Q4.out.cell (i := 1) rfl
   have q2 := Q4.out.cell (i := 2) rfl
   have q3 := Q4.out.cell (i := 3) rfl
   have q4 := Q4.out.cell (i := 4) rfl
   have q5 := Q4.out.cell (i := 5) rfl
   have q6 := Q4.out.cell (i := 6) rfl
   have z0 := Z4.out.cell (i := 0) rfl
   have z1 := Z4.out.cell (i := 1) rfl
   have z2 := Z4.out.cell (i := 2) rfl
   have z3 := Z4.out.cell (i := 3) rfl
   have z4 := Z4.out.cell (i := 4) rfl
   have z5 := Z4.out.cell (i := 5) rfl
   have z6 := Z4.out.cell (i := 6) rfl
   have zf := Z4.out.free
   obtain ⟨X5, hX5⟩ : ∃ X5, put7s wr (w.heap.size + 1) (.int .i64 (lp : Int)) (.slice ar 2 cr) (.int .i64 0) (.int .i64 0) (.slice none 0 0) (.slice at9 (newL lp m.e).length ct9) (.slice none 0 0) = X5 := ⟨_, rfl⟩
   have hP := Z4.out.put7s (.int .i64 (lp : Int)) (.slice ar 2 cr) (.int .i64 0) (.int .i64 0) (.slice none 0 0) (.slice at9 (newL lp m.e).length ct9) (.slice none 0 0)
   have ht := put7s_turns wr (w.heap.size + 1) (.int .i64 (lp : Int)) (.slice ar 2 cr) (.int .i64 0) (.int .i64 0) (.slice none 0 0) (.slice at9 (newL lp m.e).length ct9) (.slice none 0 0)
   rw [hX5] at hP ht
   unfold put7s at hX5
   have HX5 : Hid _ := hX5
   have HP5 : Hid (Bk X5 (w.heap.size + 1) 70 #[.int .i64 (lp : Int), .slice ar 2 cr, .int .i64 0, .int .i64 0, .slice none 0 0, .slice at9 (newL lp m.e).length ct9, .slice none 0 0]) := hP
   have HT5 : Hid (Turns (fun q => q = (w.heap.size + 1)) wr X5) := ht
   clear hX5 hP ht
   go_wp2
   try rw [HX5.out]
   have t0 := HP5.out.cell (i := 0) rfl
   have t1 := HP5.out.cell (i := 1) rfl
   have t2 := HP5.out.cell (i := 2) rfl
   have t3 := HP5.out.cell (i := 3) rfl
   have t4 := HP5.out.cell (i := 4) rfl
   have t5 := HP5.out.cell (i := 5) rfl
   have t6 := HP5.out.cell (i := 6) rfl
   refine bodyPost_ret (v := .agg #[.int .i64 (lp : Int), .slice ar 2 cr, .int .i64 0, .int .i64 0, .slice none 0 0, .slice at9 (newL lp m.e).length ct9, .slice none 0 0]) (by simp [results, Tryz.results68, go_sem, t0, t1, t2, t3, t4, t5, t6]) rfl ?_
   have hbx : Below w.heap.size w X5 := HBr.out.trans (HT5.out.to_below (fun q hq => by omega) HBr.out.size)
   have ho9 : OwnR W2.heap.size X5 (.slice at9 (newL lp m.e).length ct9) (newL lp m.e) := owns_turns HO.out HT5.out (fun q hq e1 => by have := row_ge HO.out hq; omega)
   have hr9 : OwnD X5 (fun q => W0.heap.size ≤ q ∧ q < w1.heap.size) (.slice ar 2 cr) (intsD [intAt m.i lp, 0]) := HR4.out.turns HT5.out (fun q hq e1 => by omega)
   have hf9 : RowF (fun k => Value.ownBlock (.slice at9 (newL lp m.e).length ct9) = some k) X5 (.slice at9 (newL lp m.e).length ct9) (newL lp m.e).length 7 (cellsL (newL lp m.e)) := RowF.ownB (cellsL_length _) ho9
   have hx9 : wr.heap.size ≤ X5.heap.size := HT5.out.size
   have hy9 : w1.heap.size ≤ X5.heap.size := Nat.le_trans HBXS.out hx9
   exact ⟨⟨_, rfl, (fun q => W0.heap.size ≤ q ∧ q < w1.heap.size), (fun _ => False), (fun k => Value.ownBlock (.slice at9 (newL lp m.e).length ct9) = some k), (fun _ => False), _, _, _, _, rfl, hr9, (OwnD.nil _ _ _ _ _ (Nat.zero_le _) : OwnD X5 (fun _ => False) (.slice none 0 0) (pastsD [])), hf9.own, (OwnD.nil _ _ _ _ _ (Nat.zero_le _) : OwnD X5 (fun _ => False) (.slice none 0 0) (intsD [])), fun k hk => ⟨⟨by omega, by omega⟩, id, fun e1 => by have h9 := row_ge ho9 e1; omega, id⟩, fun k hk => hk.elim, fun k hk => ⟨⟨by have h9 := row_ge ho9 hk; omega, owns_lt ho9 hk⟩, id⟩, fun k hk => hk.elim⟩, hbx⟩
end Go.Proofs.YthfhibnnkpbeiaaGreat

/- Rows of parts that grow. -/
namespace Go.Proofs.YthfhibnnkpbeiaaGreat
open Go.RowKit
theorem infoPt : (Tryz.prog.info? 70).map (fun i => (i.zero, i.size, i.bytes)) = some (some (.agg #[.int .i64 0, .slice none 0 0, .int .i64 0, .int .i64 0, .slice none 0 0, .slice none 0 0, .slice none 0 0]), 7, 120) := by kernel_rfl
def partL (q : Pa) (u1 u4 u5 u6 : Value) : List Value := [.int .i64 q.n, u1, .int .i64 q.st.q, .int .i64 q.st.d, u4, u5, u6]
def partK (K1 K4 K5 K6 : Nat → Prop) (r : Nat) : Nat → Prop := if r = 1 then K1 else if r = 4 then K4 else if r = 5 then K5 else if r = 6 then K6 else fun _ => False
theorem part_own {w : World} {q : Pa} {u1 u4 u5 u6 : Value} {K1 K4 K5 K6 : Nat → Prop} (h1 : OwnD w K1 u1 (intsD q.st.r)) (h4 : OwnD w K4 u4 (pastsD q.p)) (h5 : OwnD w K5 u5 (evsD q.t)) (h6 : OwnD w K6 u6 (intsD q.a)) : ∀ r, r < 7 → OwnD w (partK K1 K4 K5 K6 r) (nthV (partL q u1 u4 u5 u6) r) (q.cell r)
 | 0, _ => .val _ _
 | 1, _ => h1
 | 2, _ => .val _ _
 | 3, _ => .val _ _
 | 4, _ => h4
 | 5, _ => h5
 | 6, _ => h6
theorem partK_in {K1 K4 K5 K6 F : Nat → Prop} (d1 : ∀ k, K1 k → F k ∧ ¬ K4 k ∧ ¬ K5 k ∧ ¬ K6 k) (d4 : ∀ k, K4 k → F k ∧ ¬ K5 k ∧ ¬ K6 k) (d5 : ∀ k, K5 k → F k ∧ ¬ K6 k) (d6 : ∀ k, K6 k → F k) (r k : Nat) (h : partK K1 K4 K5 K6 r k) : F k := by
 unfold partK at h
 split at h
 ·exact (d1 k h).1
 ·split at h
  ·exact (d4 k h).1
  ·split at h
   ·exact (d5 k h).1
   ·split at h
    ·exact d6 k h
    ·exact h.elim
theorem partK_one {K1 K4 K5 K6 F : Nat → Prop} (d1 : ∀ k, K1 k → F k ∧ ¬ K4 k ∧ ¬ K5 k ∧ ¬ K6 k) (d4 : ∀ k, K4 k → F k ∧ ¬ K5 k ∧ ¬ K6 k) (d5 : ∀ k, K5 k → F k ∧ ¬ K6 k) {i j : Nat} (hij : i ≠ j) (k : Nat) (h : partK K1 K4 K5 K6 i k) : ¬ partK K1 K4 K5 K6 j k := by
 intro h'
 have e : ∀ r, partK K1 K4 K5 K6 r k → (r = 1 ∧ K1 k) ∨ (r = 4 ∧ K4 k) ∨ (r = 5 ∧ K5 k) ∨ (r = 6 ∧ K6 k) := fun r hr => by
  unfold partK at hr
  split at hr
  ·exact .inl ⟨by assumption, hr⟩
  ·split at hr
   ·exact .inr (.inl ⟨by assumption, hr⟩)
   ·split at hr
    ·exact .inr (.inr (.inl ⟨by assumption, hr⟩))
    ·split at hr
     ·exact .inr (.inr (.inr ⟨by assumption, hr⟩))
     ·exact hr.elim
 rcases e i h with ⟨a, b⟩ | ⟨a, b⟩ | ⟨a, b⟩ | ⟨a, b⟩ <;> rcases e j h' with ⟨a', b'⟩ | ⟨a', b'⟩ | ⟨a', b'⟩ | ⟨a', b'⟩
 all_goals first
  | (exfalso; omega)
  | exact (d1 k b).2.1 b'
  | exact (d1 k b).2.2.1 b'
  | exact (d1 k b).2.2.2 b'
  | exact (d4 k b).2.1 b'
  | exact (d4 k b).2.2 b'
  | exact (d5 k b).2 b'
  | exact (d1 k b').2.1 b
  | exact (d1 k b').2.2.1 b
  | exact (d1 k b').2.2.2 b
  | exact (d4 k b').2.1 b
  | exact (d4 k b').2.2 b
  | exact (d5 k b').2 b
def PsG (B : Nat) (w : World) (v : Value) (n : Nat) (l : List Pa) : Prop := ∃ cs G, GrowD B 70 w v 7 n cs (partsD_f l) G
theorem PsG.nil (B : Nat) (w : World) (l : List Pa) : PsG B w (.slice none 0 0) 0 l := ⟨[], fun _ _ => False, GrowD.nil _ _ _ _ _ _⟩
theorem PsG.below {B : Nat} {w w' : World} {v : Value} {n : Nat} {l : List Pa} (h : PsG B w v n l) (hb : Below w.heap.size w w') : PsG B w' v n l := by
 obtain ⟨cs, G, h⟩ := h
 exact ⟨cs, G, h.below hb⟩
theorem PsG.low {S : Nat → Prop} {B : Nat} {w w' : World} {v : Value} {n : Nat} {l : List Pa} (h : PsG B w v n l) (ht : Turns S w w') (hS : ∀ k, B ≤ k → ¬ S k) : PsG B w' v n l := by
 obtain ⟨cs, G, h⟩ := h
 exact ⟨cs, G, h.low ht hS⟩
theorem PsG.row {B : Nat} {w : World} {v : Value} {n : Nat} {l : List Pa} (h : PsG B w v n l) : ∃ cs, w.ownsRow B 70 7 v n cs := by
 obtain ⟨cs, G, h⟩ := h
 exact ⟨cs, h.row⟩
theorem GrowD.snocPa {B : Nat} {V0 w w3 : World} {v v3 y : Value} {n : Nat} {cs : List Value} {l : List Pa} {G : Nat → Nat → Prop} (h0 : GrowD B 70 V0 v 7 n cs (partsD_f l) G) (hb : Below V0.heap.size V0 w) (hB : B ≤ V0.heap.size)
  (hy : PartF (fun k => V0.heap.size ≤ k ∧ k < w.heap.size) w y (paAt l n)) (u1 u4 u5 u6 : Value) (hform : y = .agg #[.int .i64 (paAt l n).n, u1, .int .i64 (paAt l n).st.q, .int .i64 (paAt l n).st.d, u4, u5, u6])
  (ho : w3.ownsRow B 70 7 v3 (n + 1) (cs ++ partL (paAt l n) u1 u4 u5 u6)) (hg : w.grownBy w3 v.ownBlock) (hw : NewRow w v v3) : PsG B w3 v3 (n + 1) l := by
 obtain ⟨K1, K4, K5, K6, x1, x4, x5, x6, rfl, h1, h4, h5, h6, d1, d4, d5, d6⟩ := hy
 simp only [Value.agg.injEq, Array.mk.injEq, List.cons.injEq, and_true, true_and] at hform
 obtain ⟨rfl, rfl, rfl, rfl⟩ := hform
 have hbl : ∀ k, GrowD.blocks v 7 n G k → k < V0.heap.size := fun k hk => (h0.blocks_ge hk).2
 have hK := partK_in d1 d4 d5 d6
 have h := (h0.below hb).snoc ho hg hw (part_own h1 h4 h5 h6) (fun r hr k hk => ⟨by have := hK r k hk; omega, (hK r k hk).2, fun e => by have := hbl k (.inl e); have := hK r k hk; omega, fun j hj e => by have := hbl k (.inr ⟨j, hj, e⟩); have := hK r k hk; omega⟩) (fun i j hi hj hij => partK_one d1 d4 d5 hij)
 refine ⟨_, _, ⟨h.row, fun j hj => ?_, h.lim, h.dis⟩⟩
 have h9 := h.own j hj
 unfold joinF at h9
 unfold joinF
 by_cases hlt : j < n * 7
 ·rw [if_pos hlt, if_pos hlt] at h9
  rw [if_pos hlt]
  exact h9
 ·rw [if_neg hlt, if_neg hlt] at h9
  rw [if_neg hlt]
  have e9 : partsD_f l j = (paAt l n).cell (j - n * 7) := by
   have e8 := partsD_at l n (r := j - n * 7) (by omega)
   rw [show n * 7 + (j - n * 7) = j from by omega] at e8
   exact e8
  rw [e9]
  exact h9
theorem PsG.ownD {B : Nat} {w : World} {v : Value} {l : List Pa} (h : PsG B w v l.length l) : ∃ A : Nat → Prop, OwnD w A v (partsD l) ∧ ∀ k, A k → B ≤ k ∧ k < w.heap.size := by
 obtain ⟨cs, G, h⟩ := h
 exact ⟨_, h.ownD, fun k hk => h.blocks_ge hk⟩
def newPs (m : Md) (n : Nat) : List Pa := (List.range n).map (newP m)
theorem newPs_len (m : Md) (n : Nat) : (newPs m n).length = n := by simp [newPs]
theorem newPs_at (m : Md) {n i : Nat} (h : i < n) : paAt (newPs m n) i = newP m i := by simp [paAt, newPs, h]
end Go.Proofs.YthfhibnnkpbeiaaGreat

/- Mails as plain values and as cells; rows of them: how much there is, two alike, a copy of its own. -/
namespace Go.Proofs.YthfhibnnkpbeiaaGreat
open Go.RowKit
structure Ml where
 e : Ev
 a : Bool
def mlAt (l : List Ml) (i : Nat) : Ml := l.getD i ⟨⟨0, 0, 0, 0, 0, 0, 0⟩, false⟩
def Ml.cs (m : Ml) : List Value := [.int .i64 m.e.t, .int .i64 m.e.s, .int .i64 m.e.q, .int .i64 m.e.d, .int .i64 m.e.k, .int .i64 m.e.v, .int .i64 m.e.g, .bool m.a]
def cellsMl : List Ml → List Value
 | [] => []
 | e :: l => e.cs ++ cellsMl l
theorem mlAt_cons_succ (e : Ml) (l : List Ml) (i : Nat) : mlAt (e :: l) (i + 1) = mlAt l i := by simp [mlAt]
theorem cellsMl_get : ∀ (l : List Ml) (i r : Nat), i < l.length → r < 8 → (cellsMl l)[i * 8 + r]? = (mlAt l i).cs[r]?
 | [], _, _, h, _ => by simp at h
 | e :: l, 0, r, _, hr => by
  have : r < e.cs.length := by simpa [Ml.cs] using hr
  simp only [cellsMl, Nat.zero_mul, Nat.zero_add]
  rw [List.getElem?_append_left this]
  simp [mlAt]
 | e :: l, i + 1, r, h, hr => by
  have h1 := cellsMl_get l i r (by simpa using h) hr
  have : e.cs.length ≤ (i + 1) * 8 + r := by simp [Ml.cs]; omega
  simp only [cellsMl]
  rw [List.getElem?_append_right this, mlAt_cons_succ, ← h1]
  congr 1
  simp [Ml.cs]; omega
structure MlAt (w : World) (b o : Nat) (m : Ml) : Prop where
 f0 : w.cell? ⟨b, o, none⟩ = some (.int .i64 m.e.t)
 f1 : w.cell? ⟨b, o + 1, none⟩ = some (.int .i64 m.e.s)
 f2 : w.cell? ⟨b, o + 2, none⟩ = some (.int .i64 m.e.q)
 f3 : w.cell? ⟨b, o + 3, none⟩ = some (.int .i64 m.e.d)
 f4 : w.cell? ⟨b, o + 4, none⟩ = some (.int .i64 m.e.k)
 f5 : w.cell? ⟨b, o + 5, none⟩ = some (.int .i64 m.e.v)
 f6 : w.cell? ⟨b, o + 6, none⟩ = some (.int .i64 m.e.g)
 f7 : w.cell? ⟨b, o + 7, none⟩ = some (.bool m.a)
theorem MlAt.below {w w' : World} {B b o : Nat} {m : Ml} (h : MlAt w b o m) (hb : Below B w w') (hlt : b < B) : MlAt w' b o m :=
 ⟨(hb.cell hlt).trans h.f0, (hb.cell hlt).trans h.f1, (hb.cell hlt).trans h.f2, (hb.cell hlt).trans h.f3, (hb.cell hlt).trans h.f4, (hb.cell hlt).trans h.f5, (hb.cell hlt).trans h.f6, (hb.cell hlt).trans h.f7⟩
def MlsAt (w : World) (b off : Nat) (l : List Ml) : Prop := b < w.heap.size ∧ ∀ i, i < l.length → MlAt w b (off + i * 8) (mlAt l i)
def IsMl (w : World) (x : Value) (l : List Ml) : Prop := ∃ a cap, x = .slice a l.length cap ∧ l.length ≤ cap ∧ cap ≤ maxLen ∧ (l = [] ∨ ∃ b off, a = some ⟨b, off, none⟩ ∧ MlsAt w b off l)
def mailsD (l : List Ml) : Dat := flat 8 l.length (cellsMl l)
theorem IsD.isMl {w : World} {x : Value} {l : List Ml} (h : IsD w x (mailsD l)) : IsMl w x l := by
 obtain ⟨a, cap, rfl, h1, h2, h⟩ := IsD.parts (c := 8) (n := l.length) h
 refine ⟨a, cap, rfl, h1, h2, h.imp List.eq_nil_of_length_eq_zero ?_⟩
 rintro ⟨b, off, rfl, hb, hc⟩
 refine ⟨b, off, rfl, hb, fun i hi => ?_⟩
 have hget : ∀ r, r < 8 → w.cell? ⟨b, off + i * 8 + r, none⟩ = (mlAt l i).cs[r]? := fun r hr => by
  obtain ⟨u, hu, hd⟩ := hc (i * 8 + r) (by omega)
  rw [Nat.add_assoc, hu, hd.val_eq]
  have hg := cellsMl_get l i r hi hr
  have : r < (mlAt l i).cs.length := by simpa [Ml.cs] using hr
  rw [List.getElem?_eq_getElem this] at hg ⊢
  rw [getD_of hg]
 exact ⟨hget 0 (by omega), hget 1 (by omega), hget 2 (by omega), hget 3 (by omega), hget 4 (by omega), hget 5 (by omega), hget 6 (by omega), hget 7 (by omega)⟩
theorem mails_wt (l : List Ml) : (mailsD l).wt = l.length := flat_wt _ _ _
set_option maxHeartbeats 1000000 in
theorem eqMail_same (t s q d k v g : Int) (b : Bool) (w : World) :
  Calls Tryz.prog 84 #[.agg #[.int .i64 t, .int .i64 s, .int .i64 q, .int .i64 d, .int .i64 k, .int .i64 v, .int .i64 g, .bool b], .agg #[.int .i64 t, .int .i64 s, .int .i64 q, .int .i64 d, .int .i64 k, .int .i64 v, .int .i64 g, .bool b]] w fun e w' => e = .returned (.bool true) ∧ Below w.heap.size w w' := by
 obtain ⟨W0, hW0⟩ : ∃ V, (w.alloc (.cells #[.int .i64 t, .int .i64 s, .int .i64 q, .int .i64 d, .int .i64 k, .int .i64 v, .int .i64 g, .bool b] 122)).alloc (.cells #[.int .i64 t, .int .i64 s, .int .i64 q, .int .i64 d, .int .i64 k, .int .i64 v, .int .i64 g, .bool b] 122) = V := ⟨_, rfl⟩
 have hb0 : Below w.heap.size w W0 := hW0 ▸ ((Below.refl _ w).alloc (Nat.le_refl _) _).alloc (by simp) _
 have HB0 : Hid (Below w.heap.size w W0) := hb0
 have B1 : Hid (Bk W0 w.heap.size 122 #[.int .i64 t, .int .i64 s, .int .i64 q, .int .i64 d, .int .i64 k, .int .i64 v, .int .i64 g, .bool b]) := hW0 ▸ (Bk.new w _ _).alloc _
 have B2 : Hid (Bk W0 (w.heap.size + 1) 122 #[.int .i64 t, .int .i64 s, .int .i64 q, .int .i64 d, .int .i64 k, .int .i64 v, .int .i64 g, .bool b]) := hW0 ▸ Bk.newAt (by simp) _ _
 clear hb0
 have x0 := B1.out.cell (i := 0) rfl
 have x1 := B1.out.cell (i := 1) rfl
 have x2 := B1.out.cell (i := 2) rfl
 have x3 := B1.out.cell (i := 3) rfl
 have x4 := B1.out.cell (i := 4) rfl
 have x5 := B1.out.cell (i := 5) rfl
 have x6 := B1.out.cell (i := 6) rfl
 have y0 := B2.out.cell (i := 0) rfl
 have y1 := B2.out.cell (i := 1) rfl
 have y2 := B2.out.cell (i := 2) rfl
 have y3 := B2.out.cell (i := 3) rfl
 have y4 := B2.out.cell (i := 4) rfl
 have y5 := B2.out.cell (i := 5) rfl
 have y6 := B2.out.cell (i := 6) rfl
 go_enter Tryz.func84, Tryz.ntmps84
 go_wp2_with fail
 clear hW0 x0 y0 x1 y1 x2 y2 x3 y3 x4 y4 x5 y5 x6 y6
 refine (eqEvent_same _ _ _ _ _ _ _ _).mono ?_
 rintro r w1 ⟨rfl, hb⟩
 have x7 := (B1.out.below hb).cell (i := 7) rfl
 have y7 := (B2.out.below hb).cell (i := 7) rfl
 have HB1 : Hid (Below w.heap.size w w1) := HB0.out.trans (hb.mono HB0.out.size)
 clear hb
 cases b <;> (go_wp2; go_ret; exact ⟨rfl, HB1.out⟩)
set_option maxHeartbeats 1000000 in
theorem eqMl_same (x y : Value) (l : List Ml) (w : World) (hl : l.length ≤ 1048576) (hx : IsMl w x l) (hy : IsMl w y l) :
  Calls Tryz.prog 37 #[x, y] w fun e w' => e = .returned (.bool true) ∧ Below w.heap.size w w' := by
 obtain ⟨a, cap, rfl, h1, h2, h⟩ := hx
 obtain ⟨a', cap', rfl, h1', h2', h'⟩ := hy
 clear h1 h2 h1' h2'
 by_cases hz : l = []
 ·subst hz
  clear h h'
  go_enter Tryz.func37, Tryz.ntmps37
  go_wp2
  go_loop [5] (fun i => i = .int .i64 0) (fun _ => 0)
  case atStart => rfl
  case round =>
   subst hrel
   go_wp2
   go_ret
   exact ⟨rfl, Below.refl _ _⟩
 ·obtain ⟨b, off, rfl, hb, hc⟩ := h.resolve_left hz
  obtain ⟨b', off', rfl, hb', hc'⟩ := h'.resolve_left hz
  clear h h' hz
  go_enter Tryz.func37, Tryz.ntmps37
  go_wp2
  go_loopw [5] (fun i wr => ∃ k : Nat, k ≤ l.length ∧ i = .int .i64 k ∧ Below w.heap.size w wr) (fun i _ => l.length - (intOf i).toNat)
  case atStart => exact ⟨0, Nat.zero_le _, rfl, Below.refl _ _⟩
  case round =>
   obtain ⟨k, hk, rfl, hB⟩ := hrel
   have HB : Hid (Below w.heap.size w wr) := hB
   by_cases hlt : k < l.length
   ·obtain ⟨f0, f1, f2, f3, f4, f5, f6, f7⟩ := (hc k hlt).below hB hb
    obtain ⟨e0, e1, e2, e3, e4, e5, e6, e7⟩ := (hc' k hlt).below hB hb'
    have hbr : b < wr.heap.size := Nat.lt_of_lt_of_le hb hB.size
    have hbr' : b' < wr.heap.size := Nat.lt_of_lt_of_le hb' hB.size
    clear hB hc hc'
    go_wp2_with fail
    go_region_held3 (fun W => W.cell? ⟨b, off + k * 8, none⟩ = some (.int .i64 (mlAt l k).e.t) ∧ W.cell? ⟨b, off + k * 8 + 1, none⟩ = some (.int .i64 (mlAt l k).e.s) ∧ W.cell? ⟨b, off + k * 8 + 2, none⟩ = some (.int .i64 (mlAt l k).e.q) ∧ W.cell? ⟨b, off + k * 8 + 3, none⟩ = some (.int .i64 (mlAt l k).e.d) ∧ W.cell? ⟨b, off + k * 8 + 4, none⟩ = some (.int .i64 (mlAt l k).e.k) ∧ W.cell? ⟨b, off + k * 8 + 5, none⟩ = some (.int .i64 (mlAt l k).e.v) ∧ W.cell? ⟨b, off + k * 8 + 6, none⟩ = some (.int .i64 (mlAt l k).e.g) ∧ W.cell? ⟨b, off + k * 8 + 7, none⟩ = some (.bool (mlAt l k).a) ∧ W.cell? ⟨b', off' + k * 8, none⟩ = some (.int .i64 (mlAt l k).e.t) ∧ W.cell? ⟨b', off' + k * 8 + 1, none⟩ = some (.int .i64 (mlAt l k).e.s) ∧ W.cell? ⟨b', off' + k * 8 + 2, none⟩ = some (.int .i64 (mlAt l k).e.q) ∧ W.cell? ⟨b', off' + k * 8 + 3, none⟩ = some (.int .i64 (mlAt l k).e.d) ∧ W.cell? ⟨b', off' + k * 8 + 4, none⟩ = some (.int .i64 (mlAt l k).e.k) ∧ W.cell? ⟨b', off' + k * 8 + 5, none⟩ = some (.int .i64 (mlAt l k).e.v) ∧ W.cell? ⟨b', off' + k * 8 + 6, none⟩ = some (.int .i64 (mlAt l k).e.g) ∧ W.cell? ⟨b', off' + k * 8 + 7, none⟩ = some (.bool (mlAt l k).a)) ((repeat' apply And.intro) <;> first | (go_keep; done) | (rw [hcA _ _ (by first | omega | (simp; omega) | simp [*])]; simp [*]; done))
     (first | (go_at_call 84; refine (eqMail_same _ _ _ _ _ _ _ _ _).mono ?_; rintro e w2 ⟨rfl, hb2⟩; obtain ⟨hcA, hfA⟩ := bcell hb2))
    clear hcA hfA
    go_wp2
    go_roundw
    case rel => exact ⟨k + 1, by omega, by go_num, HB.out.drew.trans (hb2.mono (by have := HB.out.size; simpa using this))⟩
    case measure => simp [intOf]; omega
   ·clear hB hc hc'
    go_wp2
    go_ret
    exact ⟨rfl, HB.out⟩
theorem eq_mails (x y : Value) (l : List Ml) (w : World) (hl : l.length ≤ 1048576) (hx : IsD w x (mailsD l)) (hy : IsD w y (mailsD l)) :
  Calls Tryz.prog 37 #[x, y] w fun e w' => e = .returned (.bool true) ∧ Below w.heap.size w w' :=
 eqMl_same x y l w hl hx.isMl hy.isMl
end Go.Proofs.YthfhibnnkpbeiaaGreat

/- szModel, with how much it leaves. -/
namespace Go.Proofs.YthfhibnnkpbeiaaGreat
open Go.RowKit
set_option maxHeartbeats 2000000 in
theorem szModel_le (x : Value) (m : Md) (w : World) (h : IsM w x m) :
  Calls Tryz.prog 5 #[x, .int .i64 1048576] w fun e w' => (∃ r, e = .returned (.int .i64 r) ∧ (r = -1 ∨ (0 ≤ r ∧ r ≤ 1048576 ∧ SmallM m))) ∧ Below w.heap.size w w' := by
 obtain ⟨vi, vh, vs, rfl, h1, h2, h3⟩ := h
 obtain ⟨n, s, i, hh, ev, z⟩ := m
 have HH : Hid (IsH w vh hh) := h2
 obtain ⟨a1, c1, rfl, hi1, hi2, _⟩ := h1
 obtain ⟨a3, c3, rfl, he1, he2, _⟩ := h3
 have HI : Hid (i.length ≤ maxLen) := Nat.le_trans hi1 hi2
 have HE : Hid (ev.length ≤ maxLen) := Nat.le_trans he1 he2
 clear h2 hi1 hi2 he1 he2
 obtain ⟨W0, hW0⟩ : ∃ W0, w.alloc (.cells #[.int .i64 n, .int .i64 s, .slice a1 i.length c1, vh, .slice a3 ev.length c3, .int .i64 z] 26) = W0 := ⟨_, rfl⟩
 have HB0 : Hid (Below w.heap.size w W0) := by rw [← hW0]; exact (Below.refl _ w).alloc (Nat.le_refl _) _
 have HP0 : Bk W0 w.heap.size 26 #[.int .i64 n, .int .i64 s, .slice a1 i.length c1, vh, .slice a3 ev.length c3, .int .i64 z] := by rw [← hW0]; exact Bk.new w _ _
 have p2 := HP0.cell (i := 2) rfl
 have p3 := HP0.cell (i := 3) rfl
 have p4 := HP0.cell (i := 4) rfl
 clear HP0
 have go : ∀ q : Int, q = szN i.length 1048576 → q = -1 ∨ (0 ≤ q ∧ q ≤ 1048576 ∧ i.length ≤ 1048576) := by
  intro q hq
  unfold szN at hq
  split at hq <;> omega
 go_enter Tryz.func5, Tryz.ntmps5
 go_wp2_with fail
 refine (szI_any _ _ _ _ _ HI.out (by omega) (by omega)).mono ?_
 rintro e w' ⟨rfl, hw⟩
 have hw' := hw.symm
 clear hw
 subst hw'
 clear hW0
 generalize hq : szN i.length 1048576 = q
 rcases go q hq.symm with rfl | ⟨q0, q1, q2⟩
 ·clear go hq
  go_wp2
  go_ret
  exact ⟨⟨_, rfl, .inl rfl⟩, HB0.out⟩
 ·have HQ : Hid (i.length ≤ 1048576) := q2
  have q3 : ¬ (q < 0) := by omega
  clear go hq q2
  go_wp2_with fail
  refine (szH_any _ hh _ _ (HH.out.below HB0.out) q0 q1).mono ?_
  rintro e w' ⟨⟨r, rfl, hr⟩, hw⟩
  have hw' := hw.symm
  clear hw
  subst hw'
  rcases hr with rfl | ⟨r0, r1, r2, r3, r4⟩
  ·go_wp2
   go_ret
   exact ⟨⟨_, rfl, .inl rfl⟩, HB0.out⟩
  ·have r5 : ¬ (r < 0) := by omega
   have r6 : r ≤ 1048576 := by omega
   have HR : Hid ((hh.length : Int) ≤ 1048576 ∧ (∀ i, (hAt hh i).length ≤ 1048576) ∧ sumL (lens hh) hh.length ≤ 1048576) := ⟨r2, r3, r4⟩
   clear r1 r2 r3 r4
   go_wp2_with fail
   refine (szE_any _ _ _ _ _ HE.out r0 r6).mono ?_
   rintro e w' ⟨rfl, hw⟩
   have hw' := hw.symm
   clear hw
   subst hw'
   generalize hq : szN ev.length r = t
   have ht : t = -1 ∨ (0 ≤ t ∧ t ≤ 1048576 ∧ ev.length ≤ 1048576) := by
    unfold szN at hq
    split at hq <;> omega
   clear hq
   rcases ht with rfl | ⟨t0, t9, t1⟩
   ·go_wp2
    go_ret
    exact ⟨⟨_, rfl, .inl rfl⟩, HB0.out⟩
   ·have t2 : ¬ (t < 0) := by omega
    go_wp2
    go_ret
    exact ⟨⟨_, rfl, .inr ⟨t0, t9, HQ.out, by have := HR.out.1; show hh.length ≤ 1048576; omega, HR.out.2.1, HR.out.2.2, t1⟩⟩, HB0.out⟩
end Go.Proofs.YthfhibnnkpbeiaaGreat

