/- Open, Places, PTt, PBs, PCpO, SlG, HPu, N4w, KGp -/
import Derived.Test.YthfhibnnkpbeiaaGreatRows
import Derived.ProofKit
import Derived.ChangeOld
import Derived.Below
import Derived.OpenShut
import Derived.Test.YthfhibnnkpbeiaaGreatExactWorldNewG24
import Derived.Test.YthfhibnnkpbeiaaGreatExactWorldNewG01
import Derived.DeepKeys4
import Derived.Maps.OwnIn
import Derived.Test.YthfhibnnkpbeiaaGreatExactWorldNewG16
import Derived.Test.YthfhibnnkpbeiaaGreatExactWorldNewG06
import Derived.Test.YthfhibnnkpbeiaaGreatExactWorldNewG07
import Derived.Maps.OwnSet
import Derived.Deep.RegionHeld3
import Derived.Test.YthfhibnnkpbeiaaGreatExactWorldNewLInsD
import Derived.Test.YthfhibnnkpbeiaaGreatExactWorldNewG23
import Derived.Deep.Cut
import Derived.Test.YthfhibnnkpbeiaaGreatExactWorldNewG13
import Derived.Test.YthfhibnnkpbeiaaGreatExactWorldNewG09
import Derived.Shelf.Spec.SlicesInsertGrow
import Derived.Laws.CopyRow
import Derived.Lib.Overlaps
import Derived.Test.YthfhibnnkpbeiaaGreatExactWorldNewLTPsE
import Derived.Sort.BigQuietIn
import Derived.Laws.OwnMore
import Derived.WalkSmall
import Derived.BigRegion
import Derived.Test.YthfhibnnkpbeiaaGreatExactWorldNewLSOf
import Derived.Test.YthfhibnnkpbeiaaGreatExactWorldNewG10
/- How an event that came in is read: seven integers. -/
namespace Go.Proofs.YthfhibnnkpbeiaaGreat
open Go.ChangeShapes Go.WideShapes Go.ChangeAt Go.RowKit
theorem own : ownKnob Tryz.prog.godebug = none := by kernel_rfl
theorem laidOut : laidOutB Tryz.prog = true := by kernel_rfl
theorem cells3 : Tryz.prog.cellsOf 3 = 1 := by kernel_rfl
theorem cells23 : Tryz.prog.cellsOf 106 = 7 := by kernel_rfl
def wfI (x : Int) : Prop := (Lit.int .i64 x).wf = true
theorem list7 {α : Type} {l : List α} (h : l.length = 7) : ∃ a b c d e f g, l = [a, b, c, d, e, f, g] := by
 match l, h with
 | [a, b, c, d, e, f, g], _ => exact ⟨a, b, c, d, e, f, g, rfl⟩
set_option maxRecDepth 100000 in
theorem trod_ev {H : Type} {enc : TypeId × Value → H} {w : World} {base : Nat} {spare : Nat → Bool} {held : Bool} {fuel : Nat} {cs : List Value} {x : DataW H × List MemPlace}
  (h : DataW.trod enc Tryz.prog w base spare held fuel 106 cs = some x) :
  ∃ t s q d k v g : Int, cs = [.int .i64 t, .int .i64 s, .int .i64 q, .int .i64 d, .int .i64 k, .int .i64 v, .int .i64 g] ∧ wfI t ∧ wfI s ∧ wfI q ∧ wfI d ∧ wfI k ∧ wfI v ∧ wfI g := by
 obtain ⟨xs, n, _, rfl, hl, hlen, hf⟩ := DataW.trod_struct Tryz.underlying106 h
 rw [cells23] at hl
 obtain ⟨c0, c1, c2, c3, c4, c5, c6, rfl⟩ := list7 hl
 have hx : xs.length = 7 := by simpa using hlen
 obtain ⟨y0, y1, y2, y3, y4, y5, y6, rfl⟩ := list7 hx
 have h0 := hf 0 _ rfl
 have h1 := hf 1 _ rfl
 have h2 := hf 2 _ rfl
 have h3 := hf 3 _ rfl
 have h4 := hf 4 _ rfl
 have h5 := hf 5 _ rfl
 have h6 := hf 6 _ rfl
 obtain ⟨a0, e0, _, w0⟩ := DataW.trod_int Tryz.underlying3 h0
 obtain ⟨a1, e1, _, w1⟩ := DataW.trod_int Tryz.underlying3 h1
 obtain ⟨a2, e2, _, w2⟩ := DataW.trod_int Tryz.underlying3 h2
 obtain ⟨a3, e3, _, w3⟩ := DataW.trod_int Tryz.underlying3 h3
 obtain ⟨a4, e4, _, w4⟩ := DataW.trod_int Tryz.underlying3 h4
 obtain ⟨a5, e5, _, w5⟩ := DataW.trod_int Tryz.underlying3 h5
 obtain ⟨a6, e6, _, w6⟩ := DataW.trod_int Tryz.underlying3 h6
 simp [cells3] at e0 e1 e2 e3 e4 e5 e6
 subst e0 e1 e2 e3 e4 e5 e6
 exact ⟨a0, a1, a2, a3, a4, a5, a6, rfl, w0, w1, w2, w3, w4, w5, w6⟩
end Go.Proofs.YthfhibnnkpbeiaaGreat

/- The program's map from tags to places. -/
namespace Go.Proofs.YthfhibnnkpbeiaaGreat
open Go.RowKit Go.Shelf Go.Maps Go.WideShapes
attribute [local go_sem] Oper.semAt_some
end Go.Proofs.YthfhibnnkpbeiaaGreat

/- The specification's Trim. -/
namespace Go.Proofs.YthfhibnnkpbeiaaGreat
open Go.RowKit
def Pa.none : Pa := ⟨0, ⟨[], 0, 0⟩, [], [], []⟩
theorem none_partF (w : World) (F : Nat → Prop) : PartF F w (.agg #[.int .i64 0, .slice none 0 0, .int .i64 0, .int .i64 0, .slice none 0 0, .slice none 0 0, .slice none 0 0]) Pa.none :=
 ⟨fun _ => False, fun _ => False, fun _ => False, fun _ => False, _, _, _, _, rfl, .nil _ _ _ _ _ (Nat.zero_le _), .nil _ _ _ _ _ (Nat.zero_le _), .nil _ _ _ _ _ (Nat.zero_le _), .nil _ _ _ _ _ (Nat.zero_le _), fun _ h => h.elim, fun _ h => h.elim, fun _ h => h.elim, fun _ h => h.elim⟩
end Go.Proofs.YthfhibnnkpbeiaaGreat

/- The specification's l4back: one that was done behind the other is undone. -/
namespace Go.Proofs.YthfhibnnkpbeiaaGreat
open Go.RowKit
theorem ownR_snoc {B : Nat} {w : World} {x : Value} {l : List Ev} {e : Ev} (h : w.ownsRow B 99 7 x (l.length + 1) (cellsL l ++ e.cs)) : OwnR B w x (l ++ [e]) := by
 unfold OwnR
 rw [cellsL_append, List.length_append]
 show World.ownsRow _ _ _ _ _ (l.length + 1) (cellsL l ++ (e.cs ++ []))
 rw [List.append_nil]
 exact h
end Go.Proofs.YthfhibnnkpbeiaaGreat

/- The program's copies: lists of any length, states. -/
namespace Go.Proofs.YthfhibnnkpbeiaaGreat
open Go.RowKit
theorem hidPCpO {p : Prop} (h : p) : Hid p := h
set_option maxRecDepth 100000 in
set_option maxHeartbeats 2000000 in
theorem copyEv_src (x : Value) (l : List Ev) (w : World) (hl : l.length ≤ 1048577) (h : SrcC w x 7 l.length (cellsL l)) :
  Calls Tryz.prog 76 #[x] w fun e w' => ∃ y, e = .returned y ∧ w'.ownsRow w.heap.size 99 7 y l.length (cellsL l) ∧ Below w.heap.size w w' := by
 obtain ⟨i0, hi, hz0, hz1, hz2⟩ := info_parts info25
 have HS := hidPCpO h
 obtain ⟨_, a, c, rfl, _⟩ := h
 go_enter Tryz.func76, Tryz.ntmps76
 go_wp2_with (at_builtin; refine wpList_append_src _ rfl _ _ 29 rfl w.heap.size 99 i0 _ 7 56 Tryz.underlying29 hi hz0 hz1 hz2 rfl (by decide) (.slice none 0 0) 0 [] rfl (World.ownsRow_nil w w.heap.size 99 7) (.slice a l.length c) l.length (cellsL l) rfl HS.out (cellsL_ones l) (by unfold maxLen; omega) (by omega) (Nat.le_refl _) ?_; intro v' w' hown hgrow hnew)
 go_ret
 rw [Nat.zero_add, List.nil_append] at hown
 exact ⟨_, rfl, hown, (Below.refl _ w).grown hgrow (Nat.le_refl _) (fun k e => by cases e)⟩
set_option maxRecDepth 100000 in
set_option maxHeartbeats 2000000 in
theorem copyI_src (x : Value) (l : List Int) (w : World) (hl : l.length ≤ 1048577) (h : SrcC w x 1 l.length (intCells l)) :
  Calls Tryz.prog 34 #[x] w fun e w' => ∃ y, e = .returned y ∧ w'.ownsRow w.heap.size 3 1 y l.length (intCells l) ∧ Below w.heap.size w w' := by
 obtain ⟨i0, hi, hz0, hz1, hz2⟩ := info_parts info3
 have HS := hidPCpO h
 obtain ⟨_, a, c, rfl, _⟩ := h
 go_enter Tryz.func34, Tryz.ntmps34
 go_wp2_with (at_builtin; refine wpList_append_src _ rfl _ _ 22 rfl w.heap.size 3 i0 _ 1 8 Tryz.underlying22 hi hz0 hz1 hz2 rfl (by decide) (.slice none 0 0) 0 [] rfl (World.ownsRow_nil w w.heap.size 3 1) (.slice a l.length c) l.length (intCells l) rfl HS.out (intCells_ones l) (by unfold maxLen; omega) (by omega) (Nat.le_refl _) ?_; intro v' w' hown hgrow hnew)
 go_ret
 rw [Nat.zero_add, List.nil_append] at hown
 exact ⟨_, rfl, hown, (Below.refl _ w).grown hgrow (Nat.le_refl _) (fun k e => by cases e)⟩
end Go.Proofs.YthfhibnnkpbeiaaGreat

/- Rows of one's own: what is copied into them, cleared, shifted. -/
namespace Go.Proofs.YthfhibnnkpbeiaaGreat
open Go.RowKit
theorem owns_block {w : World} {B : Nat} {e : TypeId} {size n cap g : Nat} {xs : List Value} (h : w.ownsRow B e size (.slice (some ⟨g, 0, none⟩) n cap) n xs) : ∃ cur : Array Value, w.heap[g]? = some (.cells cur e (0, 0)) ∧ B ≤ g ∧ n ≤ cap ∧ cap ≤ maxLen ∧ cur.size = cap * size ∧ cur.toList.take (n * size) = xs := by
 rcases h.2 with ⟨h', _⟩ | ⟨g', cap', cur, h', h1, h2, h3, h4, h5, h6⟩
 ·cases h'
 ·cases h'
  exact ⟨cur, h2, h1, h3, h4, h5, h6⟩
end Go.Proofs.YthfhibnnkpbeiaaGreat

/- What becomes of a part that hears of an event: in plain words. -/
namespace Go.Proofs.YthfhibnnkpbeiaaGreat
open Go.RowKit
def insP (l : List Ev) (e : Ev) : Nat := (l.takeWhile fun q => decide (q.cmp e < 0)).length
theorem insP_at : ∀ (l : List Ev) (e : Ev), InsAt l e (insP l e)
 | [], e => ⟨by simp [insP], fun j hj => by simp [insP] at hj, fun h => by simp [insP] at h⟩
 | q :: l, e => by
  by_cases h : q.cmp e < 0
  ·have e1 : insP (q :: l) e = insP l e + 1 := by simp [insP, h]
   obtain ⟨h1, h2, h3⟩ := insP_at l e
   rw [e1]
   refine ⟨by simpa using h1, fun j hj => ?_, fun hlt => ?_⟩
   ·cases j with
    | zero => simpa [evAt] using h
    | succ j => simpa [evAt] using h2 j (by omega)
   ·have := h3 (by simpa using hlt)
    simpa [evAt] using this
  ·have e1 : insP (q :: l) e = 0 := by simp [insP, h]
   rw [e1]
   exact ⟨Nat.zero_le _, fun j hj => by omega, fun _ => by simpa [evAt] using h⟩
theorem InsAt.uniq {l : List Ev} {e : Ev} {i j : Nat} (hi : InsAt l e i) (hj : InsAt l e j) : i = j := by
 rcases Nat.lt_trichotomy i j with hl | hl | hl
 ·exact absurd (hj.2.1 i hl) (hi.2.2 (by have := hj.1; omega))
 ·exact hl
 ·exact absurd (hi.2.1 j hl) (hj.2.2 (by have := hi.1; omega))
theorem InsAt.is {l : List Ev} {e : Ev} {i : Nat} (h : InsAt l e i) : i = insP l e := h.uniq (insP_at l e)
end Go.Proofs.YthfhibnnkpbeiaaGreat

/- The specification's l4new. -/
namespace Go.Proofs.YthfhibnnkpbeiaaGreat
open Go.RowKit
theorem tzN4w {P : Program} {md : Region.Mode} {ops : Array Oper} {Q : Exit → Act → World → Prop} {S : World → Prop} {z fuel : Nat} {listed : Array Bool} {a : Act} {w : World} (i : Nat) (oi : Oper) (v : Value)
 (h : wpAnyZ P md ops Q S z fuel (listed.setIfInBounds i true) (a.put oi.dst v) w) (hi : ops[i]? = some oi := by rfl)
 (hs : Region.noSelect ops = true := by kernel_rfl) (hf : Region.free md ops listed i = true := by kernel_rfl) (hr : (Region.ready md ops listed).contains i = true := by kernel_rfl)
 (hc : chainB md ops i z [i] = true := by kernel_rfl) (hu : [i].all (fun p => !listed.getD p true) = true := by kernel_rfl)
 (hQ : ∀ c a w, Q (.panic c) (a.put oi.dst v) w → Q (.panic c) a w := by exact fun _ _ _ h => h)
 (hy : YieldsIf P ops S oi v a := by exact Or.inl ⟨by rfl, by (intro wX hSw; (try dsimp only at hSw); go_simp; (try exact IntWalk.i64_in _ (by omega)))⟩) (hS : S w := by assumption) : wpAnyZ P md ops Q S z (fuel + 1) listed a w :=
 wpAnyZ_take i [] hi hs hf hr hc hu hQ hy hS h
theorem hidN4w {p : Prop} (h : p) : Hid p := h
def insL (l : List Ev) (e : Ev) : List Ev := l.take (insP l e) ++ e :: l.drop (insP l e)
def stN (lp : Nat) (l : List Ev) (e : Ev) : List Ev := if e.d = (lp : Int) then insL l e else l
def newL (lp : Nat) (es : List Ev) : List Ev := es.foldl (stN lp) []
theorem stN_len (lp : Nat) (l : List Ev) (e : Ev) : (stN lp l e).length ≤ l.length + 1 := by
 unfold stN insL
 have := (insP_at l e).1
 split
 ·rw [List.length_append, List.length_cons, List.length_take, List.length_drop]; omega
 ·omega
theorem foldN_len (lp : Nat) : ∀ (es l : List Ev), (es.foldl (stN lp) l).length ≤ l.length + es.length
 | [], l => by simp
 | e :: es, l => by
  have h1 := foldN_len lp es (stN lp l e)
  have h2 := stN_len lp l e
  simp only [List.foldl_cons, List.length_cons]
  omega
theorem newL_len (lp : Nat) (es : List Ev) : (newL lp es).length ≤ es.length := by
 have := foldN_len lp es []
 simpa [newL] using this
theorem newL_snoc (lp : Nat) (es : List Ev) {k : Nat} (h : k < es.length) : newL lp (es.take (k + 1)) = stN lp (newL lp (es.take k)) (evAt es k) := by
 unfold newL
 rw [List.take_succ_eq_append_getElem h, List.foldl_append]
 simp [evAt, h]
def newP (m : Md) (lp : Nat) : Pa := ⟨(lp : Int), firstS m (lp : Int), [], newL lp m.e, []⟩
set_option maxRecDepth 100000 in
set_option maxHeartbeats 16000000 in
theorem l4new_any (x : Value) (m : Md) (lp : Nat) (w : World) (hlp : lp < m.i.length) (he9 : m.e.length ≤ 100000) (h : IsM w x m) :
  Calls Tryz.prog 68 #[x, .int .i64 (lp : Int)] w fun r w' => (∃ y, r = .returned y ∧ PartF (fun k => w.heap.size ≤ k ∧ k < w'.heap.size) w' y (newP m lp)) ∧ Below w.heap.size w w' := by
 have HM : Hid (IsM w x m) := h
 obtain ⟨vi, vh, vs, rfl, ⟨ai, ci, rfl, _⟩, ⟨ah, ch, rfl, _⟩, ⟨ae, ce, rfl, _, _, he3⟩⟩ := h
 have HE := hidN4w he3
 clear he3
 obtain ⟨W0, hW0⟩ : ∃ W0, (w.alloc (.cells #[.int .i64 m.n, .int .i64 m.s, .slice ai m.i.length ci, .slice ah m.h.length ch, .slice ae m.e.length ce, .int .i64 m.z] 31)).alloc (.cells #[.int .i64 0, .slice none 0 0, .int .i64 0, .int .i64 0, .slice none 0 0, .slice none 0 0, .slice none 0 0] 70) = W0 := ⟨_, rfl⟩
 have HB0 : Hid (Below w.heap.size w W0) := by rw [← hW0]; exact ((Below.refl _ w).alloc (Nat.le_refl _) _).alloc (by simp) _
 have BX : Hid (Bk W0 w.heap.size 31 #[.int .i64 m.n, .int .i64 m.s, .slice ai m.i.length ci, .slice ah m.h.length ch, .slice ae m.e.length ce, .int .i64 m.z]) := by rw [← hW0]; exact (Bk.new w _ _).alloc _
 have BZ : Hid (Bk W0 (w.heap.size + 1) 70 #[.int .i64 0, .slice none 0 0, .int .i64 0, .int .i64 0, .slice none 0 0, .slice none 0 0, .slice none 0 0]) := by rw [← hW0]; exact Bk.newAt (by simp) _ _
 have hz0 : W0.heap.size = w.heap.size + 1 + 1 := by rw [← hW0]; simp
 obtain ⟨x0, x1, x2, x3, x4, x5⟩ := c6_6 BX.out
 go_enter Tryz.func68, Tryz.ntmps68
 go_wp2_with fail
 clear hW0 x0 x1 x2 x3 x4 x5
 refine (sBegin _ m lp _ hlp (HM.out.below HB0.out)).mono ?_
 rintro r w1 ⟨y, rfl, hb1, vr, rfl, hrow⟩
 have HRO := hidN4w (RowF.own hrow)
 have HR1 := hidN4w HRO.out.isD
 obtain ⟨ar, cr, hvr⟩ : ∃ ar cr, vr = .slice ar 2 cr := by
  obtain ⟨a', c', e', _⟩ := IsD.len HR1.out
  exact ⟨a', c', e'⟩
 subst hvr
 have HB1 := hidN4w (HB0.out.trans (hb1.mono HB0.out.size))
 have X1 := hidN4w (BX.out.below hb1)
 have Z1 := hidN4w (BZ.out.below hb1)
 have hs1 : W0.heap.size ≤ w1.heap.size := hb1.size
 clear hb1 hrow BX BZ
 obtain ⟨W2, hW2⟩ : ∃ V, w1.alloc (.cells #[.int .i64 (lp : Int), .slice ar 2 cr, .int .i64 0, .int .i64 0, .slice none 0 0, .slice none 0 0, .slice none 0 0] 70) = V := ⟨_, rfl⟩
 have hb2 : Below w1.heap.size w1 W2 := hW2 ▸ (Below.refl _ w1).alloc (Nat.le_refl _) _
 have HB12 := hidN4w hb2
 have Q2 : Hid (Bk W2 w1.heap.size 70 #[.int .i64 (lp : Int), .slice ar 2 cr, .int .i64 0, .int .i64 0, .slice none 0 0, .slice none 0 0, .slice none 0 0]) := hW2 ▸ Bk.new w1 _ _
 have X2 := hidN4w (X1.out.below hb2)
 have Z2 := hidN4w (Z1.out.below hb2)
 have HB2 := hidN4w (HB1.out.trans (hb2.mono HB1.out.size))
 have hs2 : W2.heap.size = w1.heap.size + 1 := by rw [← hW2]; simp
 have HW2 := hidN4w hW2
 clear hb2 X1 Z1 hW2
 go_wp2_with fail
 rw [HW2.out]
 clear HW2
 go_loopw [6] (fun i wr => ∃ (k : Nat) (at9 : Option Addr) (ct9 : Nat), k ≤ m.e.length ∧ i = .int .i64 k ∧ Turns (fun q => q = w1.heap.size) W2 wr ∧ Bk wr w1.heap.size 70 #[.int .i64 (lp : Int), .slice ar 2 cr, .int .i64 0, .int .i64 0, .slice none 0 0, .slice at9 (newL lp (m.e.take k)).length ct9, .slice none 0 0] ∧ OwnR W2.heap.size wr (.slice at9 (newL lp (m.e.take k)).length ct9) (newL lp (m.e.take k))) (fun i _ => m.e.length - (intOf i).toNat)
 case atStart => exact ⟨0, none, 0, Nat.zero_le _, rfl, Turns.refl _ _, Q2.out, World.ownsRow_nil W2 _ _ 7⟩
 case round =>
  obtain ⟨k, at9, ct9, hk, rfl, hT, hQ, hO⟩ := hrel
  have hsr := hT.size
  have hBr : Below w.heap.size w wr := HB2.out.trans (hT.to_below (fun q hq => by omega) HB2.out.size)
  have HBr := hidN4w hBr
  have HT := hidN4w hT
  have hXr : Bk wr w.heap.size 31 #[.int .i64 m.n, .int .i64 m.s, .slice ai m.i.length ci, .slice ah m.h.length ch, .slice ae m.e.length ce, .int .i64 m.z] := X2.out.turns hT (by omega)
  have hll := newL_len lp (m.e.take k)
  rw [List.length_take] at hll
  by_cases hlt : k < m.e.length
  ·have hsn := newL_snoc lp m.e hlt
   obtain ⟨L, hL⟩ : ∃ L, newL lp (m.e.take k) = L := ⟨_, rfl⟩
   rw [hL] at hsn hQ hO hll
   clear hL
   have HQ := hidN4w hQ
   have HO := hidN4w hO
   have HLE := hidN4w ((RowF.of_owns (cellsL_length _) hO).own.isD.isEvs)
   obtain ⟨b, off, rfl, hev⟩ := HE.out.resolve_left (by intro e; rw [e] at hlt; simp at hlt)
   have hbr : b < wr.heap.size := Nat.lt_of_lt_of_le hev.1 hBr.size
   obtain ⟨f0, f1, f2, f3, f4, f5, f6⟩ := (hev.2 k hlt).below hBr hev.1
   have HXr := hidN4w hXr
   have hkn : (k : Int) < (m.e.length : Int) := by omega
   have y4 := hXr.cell (i := 4) rfl
   clear hT hQ hO hBr hXr
   obtain ⟨e, hee⟩ : ∃ e, evAt m.e k = e := ⟨_, rfl⟩
   rw [hee] at hsn f0 f1 f2 f3 f4 f5 f6
   clear hee
   by_cases hd : e.d = (lp : Int)
   ·have hdb : (e.d == (lp : Int)) = true := by simpa using hd
    have HSN : Hid (newL lp (m.e.take (k + 1)) = insL L e) := by (show _ = _; rw [hsn]; unfold stN; rw [if_pos hd])
    clear hsn hd
    go_upto_region 6 with fail
    clear y4 hdb
    refine wp_region_z 9 (fun W => W.cell? ⟨w1.heap.size, 5, none⟩ = some (.slice at9 L.length ct9) ∧ W.cell? ⟨w.heap.size, 4, none⟩ = some (.slice (some ⟨b, off, none⟩) m.e.length ce) ∧ W.cell? ⟨b, off + k * 7, none⟩ = some (.int .i64 e.t) ∧ W.cell? ⟨b, off + k * 7 + 1, none⟩ = some (.int .i64 e.s) ∧ W.cell? ⟨b, off + k * 7 + 2, none⟩ = some (.int .i64 e.q) ∧ W.cell? ⟨b, off + k * 7 + 3, none⟩ = some (.int .i64 e.d) ∧ W.cell? ⟨b, off + k * 7 + 4, none⟩ = some (.int .i64 e.k) ∧ W.cell? ⟨b, off + k * 7 + 5, none⟩ = some (.int .i64 e.v) ∧ W.cell? ⟨b, off + k * 7 + 6, none⟩ = some (.int .i64 e.g)) (by kernel_rfl) ⟨HQ.out.drew.cell rfl, HXr.out.drew.cell rfl, f0, f1, f2, f3, f4, f5, f6⟩ (fun hHeld => ?_)
    refine tzN4w 0 { dst := some 27, op := Op.fieldAddr 70 (Operand.tmp 5) 3, type := 0, pos := _, after := _, guard := none } (.pointer (some ⟨w1.heap.size, 5, none⟩)) ?_
    try simp only [Act.put, List.setIfInBounds_toArray, List.set_cons_zero, List.set_cons_succ]
    refine tzN4w 1 { dst := some 28, op := Op.load 29 (Operand.tmp 27), type := 29, pos := _, after := _, guard := none } (.slice at9 L.length ct9) ?_
    try simp only [Act.put, List.setIfInBounds_toArray, List.set_cons_zero, List.set_cons_succ]
    refine tzN4w 2 { dst := some 29, op := Op.fieldAddr 31 (Operand.tmp 2) 4, type := 0, pos := _, after := _, guard := none } (.pointer (some ⟨w.heap.size, 4, none⟩)) ?_
    try simp only [Act.put, List.setIfInBounds_toArray, List.set_cons_zero, List.set_cons_succ]
    refine tzN4w 3 { dst := some 30, op := Op.load 29 (Operand.tmp 29), type := 29, pos := _, after := _, guard := none } (.slice (some ⟨b, off, none⟩) m.e.length ce) ?_
    try simp only [Act.put, List.setIfInBounds_toArray, List.set_cons_zero, List.set_cons_succ]
    refine tzN4w 4 { dst := some 31, op := Op.move (Operand.tmp 6), type := 3, pos := _, after := _, guard := none } (.int .i64 (k : Int)) ?_
    try simp only [Act.put, List.setIfInBounds_toArray, List.set_cons_zero, List.set_cons_succ]
    refine tzN4w 5 { dst := some 32, op := Op.indexAddr 29 (Operand.tmp 30) (Operand.tmp 31), type := 0, pos := _, after := _, guard := none } (.pointer (some ⟨b, off + k * 7, none⟩)) ?_
    try simp only [Act.put, List.setIfInBounds_toArray, List.set_cons_zero, List.set_cons_succ]
    refine tzN4w 6 { dst := some 33, op := Op.load 99 (Operand.tmp 32), type := 99, pos := _, after := _, guard := none } (.agg #[.int .i64 e.t, .int .i64 e.s, .int .i64 e.q, .int .i64 e.d, .int .i64 e.k, .int .i64 e.v, .int .i64 e.g]) ?_
    try simp only [Act.put, List.setIfInBounds_toArray, List.set_cons_zero, List.set_cons_succ]
    refine wpAnyZ_ready (rs := [7]) (by kernel_rfl) (by simp) ?_
    refine AllReadyZ.cons rfl (fun K hK => ?_) AllReadyZ.nil
    go_simp
    refine (insert_any _ L e wr.drew (by omega) (HLE.out.below (Below.refl _ wr).drew)).mono ?_
    rintro r w5 ⟨ip, yi, rfl, hia, ho, hb⟩
    have HB5 : Hid (Below wr.heap.size wr w5) := (Below.refl _ wr).drew.trans hb
    have HAT : Hid (ip = insP L e) := hia.is
    have Q5 := hidN4w (HQ.out.below HB5.out)
    have X5 := hidN4w (HXr.out.below HB5.out)
    have HO5 : Hid (OwnR wr.heap.size w5 yi (L.take ip ++ e :: L.drop ip)) := ho
    obtain ⟨an, cn, rfl⟩ := owns_slice ho
    have g0 := (HB5.out.cell (p := ⟨b, off + k * 7, none⟩) hbr).trans f0
    have g1 := (HB5.out.cell (p := ⟨b, off + k * 7 + 1, none⟩) hbr).trans f1
    have g2 := (HB5.out.cell (p := ⟨b, off + k * 7 + 2, none⟩) hbr).trans f2
    have g3 := (HB5.out.cell (p := ⟨b, off + k * 7 + 3, none⟩) hbr).trans f3
    have g4 := (HB5.out.cell (p := ⟨b, off + k * 7 + 4, none⟩) hbr).trans f4
    have g5 := (HB5.out.cell (p := ⟨b, off + k * 7 + 5, none⟩) hbr).trans f5
    have g6 := (HB5.out.cell (p := ⟨b, off + k * 7 + 6, none⟩) hbr).trans f6
    clear hia ho hb
    obtain ⟨ni, hni⟩ : ∃ ni, (L.take ip ++ e :: L.drop ip).length = ni := ⟨_, rfl⟩
    have HNI := hidN4w hni
    rw [hni]
    clear hni
    try go_simp
    refine hK.out _ _ ⟨Q5.out.cell rfl, X5.out.cell rfl, g0, g1, g2, g3, g4, g5, g6⟩ (fun hHeld => ?_)
    clear hK K
    try simp only [Act.put, List.setIfInBounds_toArray, List.set_cons_zero, List.set_cons_succ]
    refine tzN4w 8 { dst := some 35, op := Op.fieldAddr 70 (Operand.tmp 5) 3, type := 0, pos := _, after := _, guard := none } (.pointer (some ⟨w1.heap.size, 5, none⟩)) ?_
    try simp only [Act.put, List.setIfInBounds_toArray, List.set_cons_zero, List.set_cons_succ]
    refine wpAnyZ_ready (rs := [9]) (by kernel_rfl) (by simp) ?_
    refine AllReadyZ.last rfl (fun K hK => ?_)
    have q5 := Q5.out.cell (i := 5) rfl
    have qf := Q5.out.free
    obtain ⟨X6, hX6⟩ : ∃ X6, w5.setCell ⟨w1.heap.size, 5, none⟩ (.slice an ni cn) = X6 := ⟨_, rfl⟩
    have hP := Q5.out.put 5 (.slice an ni cn)
    have ht := put1_turns w5 w1.heap.size 5 (.slice an ni cn)
    rw [hX6] at hP ht
    have HX6 : Hid _ := hX6
    have Q6 := hidN4w hP
    have HT6 := hidN4w ht
    clear hX6 hP ht
    go_simp
    clear q5 qf
    rw [HX6.out]
    refine hK.out _ _ ?_
    clear hK K
    try simp only [Act.put, List.setIfInBounds_toArray, List.set_cons_zero, List.set_cons_succ]
    refine wpAnyZ_done (by kernel_rfl) ?_ _
    clear hHeld
    have hz5 := HB5.out.size
    have hz6 := HT6.out.size
    have HT9 := hidN4w ((HT.out.trans (Turns.of_below HB5.out)).trans HT6.out)
    have HO6 : Hid (OwnR W2.heap.size X6 (.slice an ni cn) (L.take ip ++ e :: L.drop ip)) := by
     have h9 := HO5.out
     rw [HNI.out] at h9
     exact OwnR.mono (owns_turns h9 HT6.out (fun q hq e1 => by have := row_ge h9 hq; omega)) (by omega)
    have HSN2 : Hid (newL lp (m.e.take (k + 1)) = L.take ip ++ e :: L.drop ip) := by (show _ = _; rw [HSN.out, HAT.out]; rfl)
    go_wp2
    go_roundw
    case rel => exact ⟨k + 1, an, cn, by omega, by go_num, HT9.out, by rw [HSN2.out, HNI.out]; exact Q6.out, by rw [HSN2.out, HNI.out]; exact HO6.out⟩
    case measure => simp [intOf]; omega
   ·have hdb : (e.d == (lp : Int)) = false := by simpa using hd
    have HSN : Hid (newL lp (m.e.take (k + 1)) = L) := by (show _ = _; rw [hsn]; unfold stN; rw [if_neg hd])
    clear hsn hd
    go_wp2
    go_roundw
    case rel => exact ⟨k + 1, at9, ct9, by omega, by go_num, HT.out, by rw [HSN.out]; exact HQ.out, by rw [HSN.out]; exact HO.out⟩
    case measure => simp [intOf]; omega
  ·obtain rfl : m.e.length = k := by omega
   rw [List.take_length] at hQ hO hll
   have y4 := hXr.cell (i := 4) rfl
   have Q4 := hidN4w hQ
   have Z4 := hidN4w (Z2.out.turns hT (by omega))
   have HO := hidN4w hO
   have HBXS : Hid (w1.heap.size ≤ wr.heap.size) := (by have h9 := hT.size; omega : w1.heap.size ≤ wr.heap.size)
   have HR4 := hidN4w ((HRO.out.turns (S := fun q => q = w1.heap.size) (Turns.of_below HB12.out) (fun q hq e1 => by omega)).turns hT (fun q hq e1 => by omega))
   clear hT hQ hO hBr
   obtain ⟨q0, q1, q2, q3, q4, q5, q6⟩ := c7_7 Q4.out
   obtain ⟨z0, z1, z2, z3, z4, z5, z6⟩ := c7_7 Z4.out
   have zf := Z4.out.free
   obtain ⟨X5, hX5⟩ : ∃ X5, put7s wr (w.heap.size + 1) (.int .i64 (lp : Int)) (.slice ar 2 cr) (.int .i64 0) (.int .i64 0) (.slice none 0 0) (.slice at9 (newL lp m.e).length ct9) (.slice none 0 0) = X5 := ⟨_, rfl⟩
   have hP := Z4.out.put7s (.int .i64 (lp : Int)) (.slice ar 2 cr) (.int .i64 0) (.int .i64 0) (.slice none 0 0) (.slice at9 (newL lp m.e).length ct9) (.slice none 0 0)
   have ht := put7s_turns wr (w.heap.size + 1) (.int .i64 (lp : Int)) (.slice ar 2 cr) (.int .i64 0) (.int .i64 0) (.slice none 0 0) (.slice at9 (newL lp m.e).length ct9) (.slice none 0 0)
   rw [hX5] at hP ht
   unfold put7s at hX5
   have HX5 : Hid _ := hX5
   have HP5 := hidN4w hP
   have HT5 := hidN4w ht
   clear hX5 hP ht
   go_wp2
   try rw [HX5.out]
   obtain ⟨t0, t1, t2, t3, t4, t5, t6⟩ := c7_7 HP5.out
   refine bodyPost_ret (v := .agg #[.int .i64 (lp : Int), .slice ar 2 cr, .int .i64 0, .int .i64 0, .slice none 0 0, .slice at9 (newL lp m.e).length ct9, .slice none 0 0]) (by simp [results, Tryz.results68, go_sem, t0, t1, t2, t3, t4, t5, t6]) rfl ?_
   have hbx : Below w.heap.size w X5 := HBr.out.trans (HT5.out.to_below (fun q hq => by omega) HBr.out.size)
   have ho9 : OwnR W2.heap.size X5 (.slice at9 (newL lp m.e).length ct9) (newL lp m.e) := owns_turns HO.out HT5.out (fun q hq e1 => by have := row_ge HO.out hq; omega)
   have hr9 : OwnD X5 (fun q => W0.heap.size ≤ q ∧ q < w1.heap.size) (.slice ar 2 cr) (intsD [intAt m.i lp, 0]) := HR4.out.turns HT5.out (fun q hq e1 => by omega)
   have hf9 : RowF (fun k => Value.ownBlock (.slice at9 (newL lp m.e).length ct9) = some k) X5 (.slice at9 (newL lp m.e).length ct9) (newL lp m.e).length 7 (cellsL (newL lp m.e)) := RowF.ownB (cellsL_length _) ho9
   have hx9 : wr.heap.size ≤ X5.heap.size := HT5.out.size
   have hy9 : w1.heap.size ≤ X5.heap.size := Nat.le_trans HBXS.out hx9
   exact ⟨⟨_, rfl, (fun q => W0.heap.size ≤ q ∧ q < w1.heap.size), (fun _ => False), (fun k => Value.ownBlock (.slice at9 (newL lp m.e).length ct9) = some k), (fun _ => False), _, _, _, _, rfl, hr9, (OwnD.nil _ _ _ _ _ (Nat.zero_le _) : OwnD X5 (fun _ => False) (.slice none 0 0) (pastsD [])), hf9.own, (OwnD.nil _ _ _ _ _ (Nat.zero_le _) : OwnD X5 (fun _ => False) (.slice none 0 0) (intsD [])), fun k hk => ⟨⟨by omega, by omega⟩, id, fun e1 => by have h9 := row_ge ho9 e1; omega, id⟩, fun k hk => hk.elim, fun k hk => ⟨⟨by have h9 := row_ge ho9 hk; omega, owns_lt ho9 hk⟩, id⟩, fun k hk => hk.elim⟩, hbx⟩
end Go.Proofs.YthfhibnnkpbeiaaGreat

/- Rows of parts that grow. -/
namespace Go.Proofs.YthfhibnnkpbeiaaGreat
open Go.RowKit
theorem infoPt : (Tryz.prog.info? 70).map (fun i => (i.zero, i.size, i.bytes)) = some (some (.agg #[.int .i64 0, .slice none 0 0, .int .i64 0, .int .i64 0, .slice none 0 0, .slice none 0 0, .slice none 0 0]), 7, 120) := by kernel_rfl
def partL (q : Pa) (u1 u4 u5 u6 : Value) : List Value := [.int .i64 q.n, u1, .int .i64 q.st.q, .int .i64 q.st.d, u4, u5, u6]
def partK (K1 K4 K5 K6 : Nat → Prop) (r : Nat) : Nat → Prop := if r = 1 then K1 else if r = 4 then K4 else if r = 5 then K5 else if r = 6 then K6 else fun _ => False
theorem part_own {w : World} {q : Pa} {u1 u4 u5 u6 : Value} {K1 K4 K5 K6 : Nat → Prop} (h1 : OwnD w K1 u1 (intsD q.st.r)) (h4 : OwnD w K4 u4 (pastsD q.p)) (h5 : OwnD w K5 u5 (evsD q.t)) (h6 : OwnD w K6 u6 (intsD q.a)) : ∀ r, r < 7 → OwnD w (partK K1 K4 K5 K6 r) (nthV (partL q u1 u4 u5 u6) r) (q.cell r)
 | 0, _ => .val _ _
 | 1, _ => h1
 | 2, _ => .val _ _
 | 3, _ => .val _ _
 | 4, _ => h4
 | 5, _ => h5
 | 6, _ => h6
theorem partK_in {K1 K4 K5 K6 F : Nat → Prop} (d1 : ∀ k, K1 k → F k ∧ ¬ K4 k ∧ ¬ K5 k ∧ ¬ K6 k) (d4 : ∀ k, K4 k → F k ∧ ¬ K5 k ∧ ¬ K6 k) (d5 : ∀ k, K5 k → F k ∧ ¬ K6 k) (d6 : ∀ k, K6 k → F k) (r k : Nat) (h : partK K1 K4 K5 K6 r k) : F k := by
 unfold partK at h
 split at h
 ·exact (d1 k h).1
 ·split at h
  ·exact (d4 k h).1
  ·split at h
   ·exact (d5 k h).1
   ·split at h
    ·exact d6 k h
    ·exact h.elim
theorem partK_one {K1 K4 K5 K6 F : Nat → Prop} (d1 : ∀ k, K1 k → F k ∧ ¬ K4 k ∧ ¬ K5 k ∧ ¬ K6 k) (d4 : ∀ k, K4 k → F k ∧ ¬ K5 k ∧ ¬ K6 k) (d5 : ∀ k, K5 k → F k ∧ ¬ K6 k) {i j : Nat} (hij : i ≠ j) (k : Nat) (h : partK K1 K4 K5 K6 i k) : ¬ partK K1 K4 K5 K6 j k := by
 intro h'
 have e : ∀ r, partK K1 K4 K5 K6 r k → (r = 1 ∧ K1 k) ∨ (r = 4 ∧ K4 k) ∨ (r = 5 ∧ K5 k) ∨ (r = 6 ∧ K6 k) := fun r hr => by
  unfold partK at hr
  split at hr
  ·exact .inl ⟨by assumption, hr⟩
  ·split at hr
   ·exact .inr (.inl ⟨by assumption, hr⟩)
   ·split at hr
    ·exact .inr (.inr (.inl ⟨by assumption, hr⟩))
    ·split at hr
     ·exact .inr (.inr (.inr ⟨by assumption, hr⟩))
     ·exact hr.elim
 rcases e i h with ⟨a, b⟩ | ⟨a, b⟩ | ⟨a, b⟩ | ⟨a, b⟩ <;> rcases e j h' with ⟨a', b'⟩ | ⟨a', b'⟩ | ⟨a', b'⟩ | ⟨a', b'⟩
 all_goals first
  | (exfalso; omega)
  | exact (d1 k b).2.1 b'
  | exact (d1 k b).2.2.1 b'
  | exact (d1 k b).2.2.2 b'
  | exact (d4 k b).2.1 b'
  | exact (d4 k b).2.2 b'
  | exact (d5 k b).2 b'
  | exact (d1 k b').2.1 b
  | exact (d1 k b').2.2.1 b
  | exact (d1 k b').2.2.2 b
  | exact (d4 k b').2.1 b
  | exact (d4 k b').2.2 b
  | exact (d5 k b').2 b
def PsG (B : Nat) (w : World) (v : Value) (n : Nat) (l : List Pa) : Prop := ∃ cs G, GrowD B 70 w v 7 n cs (partsD_f l) G
theorem PsG.nil (B : Nat) (w : World) (l : List Pa) : PsG B w (.slice none 0 0) 0 l := ⟨[], fun _ _ => False, GrowD.nil _ _ _ _ _ _⟩
theorem PsG.below {B : Nat} {w w' : World} {v : Value} {n : Nat} {l : List Pa} (h : PsG B w v n l) (hb : Below w.heap.size w w') : PsG B w' v n l := by
 obtain ⟨cs, G, h⟩ := h
 exact ⟨cs, G, h.below hb⟩
theorem PsG.low {S : Nat → Prop} {B : Nat} {w w' : World} {v : Value} {n : Nat} {l : List Pa} (h : PsG B w v n l) (ht : Turns S w w') (hS : ∀ k, B ≤ k → ¬ S k) : PsG B w' v n l := by
 obtain ⟨cs, G, h⟩ := h
 exact ⟨cs, G, h.low ht hS⟩
theorem PsG.row {B : Nat} {w : World} {v : Value} {n : Nat} {l : List Pa} (h : PsG B w v n l) : ∃ cs, w.ownsRow B 70 7 v n cs := by
 obtain ⟨cs, G, h⟩ := h
 exact ⟨cs, h.row⟩
theorem GrowD.snocPa {B : Nat} {V0 w w3 : World} {v v3 y : Value} {n : Nat} {cs : List Value} {l : List Pa} {G : Nat → Nat → Prop} (h0 : GrowD B 70 V0 v 7 n cs (partsD_f l) G) (hb : Below V0.heap.size V0 w) (hB : B ≤ V0.heap.size)
  (hy : PartF (fun k => V0.heap.size ≤ k ∧ k < w.heap.size) w y (paAt l n)) (u1 u4 u5 u6 : Value) (hform : y = .agg #[.int .i64 (paAt l n).n, u1, .int .i64 (paAt l n).st.q, .int .i64 (paAt l n).st.d, u4, u5, u6])
  (ho : w3.ownsRow B 70 7 v3 (n + 1) (cs ++ partL (paAt l n) u1 u4 u5 u6)) (hg : w.grownBy w3 v.ownBlock) (hw : NewRow w v v3) : PsG B w3 v3 (n + 1) l := by
 obtain ⟨K1, K4, K5, K6, x1, x4, x5, x6, rfl, h1, h4, h5, h6, d1, d4, d5, d6⟩ := hy
 simp only [Value.agg.injEq, Array.mk.injEq, List.cons.injEq, and_true, true_and] at hform
 obtain ⟨rfl, rfl, rfl, rfl⟩ := hform
 have hbl : ∀ k, GrowD.blocks v 7 n G k → k < V0.heap.size := fun k hk => (h0.blocks_ge hk).2
 have hK := partK_in d1 d4 d5 d6
 have h := (h0.below hb).snoc ho hg hw (part_own h1 h4 h5 h6) (fun r hr k hk => ⟨by have := hK r k hk; omega, (hK r k hk).2, fun e => by have := hbl k (.inl e); have := hK r k hk; omega, fun j hj e => by have := hbl k (.inr ⟨j, hj, e⟩); have := hK r k hk; omega⟩) (fun i j hi hj hij => partK_one d1 d4 d5 hij)
 refine ⟨_, _, ⟨h.row, fun j hj => ?_, h.lim, h.dis⟩⟩
 have h9 := h.own j hj
 unfold joinF at h9
 unfold joinF
 by_cases hlt : j < n * 7
 ·rw [if_pos hlt, if_pos hlt] at h9
  rw [if_pos hlt]
  exact h9
 ·rw [if_neg hlt, if_neg hlt] at h9
  rw [if_neg hlt]
  have e9 : partsD_f l j = (paAt l n).cell (j - n * 7) := by
   have e8 := partsD_at l n (r := j - n * 7) (by omega)
   rw [show n * 7 + (j - n * 7) = j from by omega] at e8
   exact e8
  rw [e9]
  exact h9
theorem PsG.ownD {B : Nat} {w : World} {v : Value} {l : List Pa} (h : PsG B w v l.length l) : ∃ A : Nat → Prop, OwnD w A v (partsD l) ∧ ∀ k, A k → B ≤ k ∧ k < w.heap.size := by
 obtain ⟨cs, G, h⟩ := h
 exact ⟨_, h.ownD, fun k hk => h.blocks_ge hk⟩
def newPs (m : Md) (n : Nat) : List Pa := (List.range n).map (newP m)
theorem newPs_len (m : Md) (n : Nat) : (newPs m n).length = n := by simp [newPs]
theorem newPs_at (m : Md) {n i : Nat} (h : i < n) : paAt (newPs m n) i = newP m i := by simp [paAt, newPs, h]
end Go.Proofs.YthfhibnnkpbeiaaGreat

