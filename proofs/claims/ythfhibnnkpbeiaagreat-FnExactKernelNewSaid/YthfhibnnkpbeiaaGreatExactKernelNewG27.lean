/- Open, Places, PTt, PBs, PCpO, SlG, HPu -/
import Derived.Test.YthfhibnnkpbeiaaGreatRows
import Derived.ProofKit
import Derived.ChangeOld
import Derived.Below
import Derived.OpenShut
import Derived.Test.YthfhibnnkpbeiaaGreatExactKernelNewG25
import Derived.Test.YthfhibnnkpbeiaaGreatExactKernelNewG01
import Derived.DeepKeys4
import Derived.Maps.OwnIn
import Derived.Test.YthfhibnnkpbeiaaGreatExactKernelNewG17
import Derived.Test.YthfhibnnkpbeiaaGreatExactKernelNewG07
import Derived.Test.YthfhibnnkpbeiaaGreatExactKernelNewG06
import Derived.Test.YthfhibnnkpbeiaaGreatExactKernelNewG26
import Derived.Test.YthfhibnnkpbeiaaGreatExactKernelNewG02
import Derived.Maps.OwnSet
import Derived.Deep.RegionHeld3
import Derived.Test.YthfhibnnkpbeiaaGreatExactKernelNewLInsD
import Derived.Test.YthfhibnnkpbeiaaGreatExactKernelNewLInsG
import Derived.Deep.Cut
import Derived.Test.YthfhibnnkpbeiaaGreatExactKernelNewG14
import Derived.Test.YthfhibnnkpbeiaaGreatExactKernelNewG11
import Derived.Shelf.Spec.SlicesInsertGrow
import Derived.Laws.CopyRow
import Derived.Lib.Overlaps
import Derived.Test.YthfhibnnkpbeiaaGreatExactKernelNewG08
import Derived.Test.YthfhibnnkpbeiaaGreatExactKernelNewLTPsE
import Derived.Test.YthfhibnnkpbeiaaGreatExactKernelNewLTPsF
import Derived.Sort.BigQuietIn
import Derived.Laws.OwnMore
import Derived.WalkSmall
import Derived.BigRegion
/- How an event that came in is read: seven integers. -/
namespace Go.Proofs.YthfhibnnkpbeiaaGreat
open Go.ChangeShapes Go.WideShapes Go.ChangeAt Go.RowKit
theorem own : ownKnob Tryz.prog.godebug = none := by kernel_rfl
theorem laidOut : laidOutB Tryz.prog = true := by kernel_rfl
theorem cells3 : Tryz.prog.cellsOf 3 = 1 := by kernel_rfl
theorem cells23 : Tryz.prog.cellsOf 106 = 7 := by kernel_rfl
def wfI (x : Int) : Prop := (Lit.int .i64 x).wf = true
theorem list7 {α : Type} {l : List α} (h : l.length = 7) : ∃ a b c d e f g, l = [a, b, c, d, e, f, g] := by
 match l, h with
 | [a, b, c, d, e, f, g], _ => exact ⟨a, b, c, d, e, f, g, rfl⟩
set_option maxRecDepth 100000 in
theorem trod_ev {H : Type} {enc : TypeId × Value → H} {w : World} {base : Nat} {spare : Nat → Bool} {held : Bool} {fuel : Nat} {cs : List Value} {x : DataW H × List MemPlace}
  (h : DataW.trod enc Tryz.prog w base spare held fuel 106 cs = some x) :
  ∃ t s q d k v g : Int, cs = [.int .i64 t, .int .i64 s, .int .i64 q, .int .i64 d, .int .i64 k, .int .i64 v, .int .i64 g] ∧ wfI t ∧ wfI s ∧ wfI q ∧ wfI d ∧ wfI k ∧ wfI v ∧ wfI g := by
 obtain ⟨xs, n, _, rfl, hl, hlen, hf⟩ := DataW.trod_struct Tryz.underlying106 h
 rw [cells23] at hl
 obtain ⟨c0, c1, c2, c3, c4, c5, c6, rfl⟩ := list7 hl
 have hx : xs.length = 7 := by simpa using hlen
 obtain ⟨y0, y1, y2, y3, y4, y5, y6, rfl⟩ := list7 hx
 have h0 := hf 0 _ rfl
 have h1 := hf 1 _ rfl
 have h2 := hf 2 _ rfl
 have h3 := hf 3 _ rfl
 have h4 := hf 4 _ rfl
 have h5 := hf 5 _ rfl
 have h6 := hf 6 _ rfl
 obtain ⟨a0, e0, _, w0⟩ := DataW.trod_int Tryz.underlying3 h0
 obtain ⟨a1, e1, _, w1⟩ := DataW.trod_int Tryz.underlying3 h1
 obtain ⟨a2, e2, _, w2⟩ := DataW.trod_int Tryz.underlying3 h2
 obtain ⟨a3, e3, _, w3⟩ := DataW.trod_int Tryz.underlying3 h3
 obtain ⟨a4, e4, _, w4⟩ := DataW.trod_int Tryz.underlying3 h4
 obtain ⟨a5, e5, _, w5⟩ := DataW.trod_int Tryz.underlying3 h5
 obtain ⟨a6, e6, _, w6⟩ := DataW.trod_int Tryz.underlying3 h6
 simp [cells3] at e0 e1 e2 e3 e4 e5 e6
 subst e0 e1 e2 e3 e4 e5 e6
 exact ⟨a0, a1, a2, a3, a4, a5, a6, rfl, w0, w1, w2, w3, w4, w5, w6⟩
end Go.Proofs.YthfhibnnkpbeiaaGreat

/- The program's map from tags to places. -/
namespace Go.Proofs.YthfhibnnkpbeiaaGreat
open Go.RowKit Go.Shelf Go.Maps Go.WideShapes
attribute [local go_sem] Oper.semAt_some
end Go.Proofs.YthfhibnnkpbeiaaGreat

/- The specification's Trim. -/
namespace Go.Proofs.YthfhibnnkpbeiaaGreat
open Go.RowKit
def Pa.none : Pa := ⟨0, ⟨[], 0, 0⟩, [], [], []⟩
theorem none_partF (w : World) (F : Nat → Prop) : PartF F w (.agg #[.int .i64 0, .slice none 0 0, .int .i64 0, .int .i64 0, .slice none 0 0, .slice none 0 0, .slice none 0 0]) Pa.none :=
 ⟨fun _ => False, fun _ => False, fun _ => False, fun _ => False, _, _, _, _, rfl, .nil _ _ _ _ _ (Nat.zero_le _), .nil _ _ _ _ _ (Nat.zero_le _), .nil _ _ _ _ _ (Nat.zero_le _), .nil _ _ _ _ _ (Nat.zero_le _), fun _ h => h.elim, fun _ h => h.elim, fun _ h => h.elim, fun _ h => h.elim⟩
end Go.Proofs.YthfhibnnkpbeiaaGreat

/- The specification's l4back: one that was done behind the other is undone. -/
namespace Go.Proofs.YthfhibnnkpbeiaaGreat
open Go.RowKit
theorem ownR_snoc {B : Nat} {w : World} {x : Value} {l : List Ev} {e : Ev} (h : w.ownsRow B 99 7 x (l.length + 1) (cellsL l ++ e.cs)) : OwnR B w x (l ++ [e]) := by
 unfold OwnR
 rw [cellsL_append, List.length_append]
 show World.ownsRow _ _ _ _ _ (l.length + 1) (cellsL l ++ (e.cs ++ []))
 rw [List.append_nil]
 exact h
end Go.Proofs.YthfhibnnkpbeiaaGreat

/- The program's copies: lists of any length, states. -/
namespace Go.Proofs.YthfhibnnkpbeiaaGreat
open Go.RowKit
set_option maxRecDepth 100000 in
set_option maxHeartbeats 2000000 in
theorem copyEv_src (x : Value) (l : List Ev) (w : World) (hl : l.length ≤ 1048577) (h : SrcC w x 7 l.length (cellsL l)) :
  Calls Tryz.prog 76 #[x] w fun e w' => ∃ y, e = .returned y ∧ w'.ownsRow w.heap.size 99 7 y l.length (cellsL l) ∧ Below w.heap.size w w' := by
 obtain ⟨i0, hi, hz0, hz1, hz2⟩ := info_parts info25
 have HS : Hid (SrcC w x 7 l.length (cellsL l)) := h
 obtain ⟨_, a, c, rfl, _⟩ := h
 go_enter Tryz.func76, Tryz.ntmps76
 go_wp2_with (at_builtin; refine wpList_append_src _ rfl _ _ 29 rfl w.heap.size 99 i0 _ 7 56 Tryz.underlying29 hi hz0 hz1 hz2 rfl (by decide) (.slice none 0 0) 0 [] rfl (World.ownsRow_nil w w.heap.size 99 7) (.slice a l.length c) l.length (cellsL l) rfl HS.out (cellsL_ones l) (by unfold maxLen; omega) (by omega) (Nat.le_refl _) ?_; intro v' w' hown hgrow hnew)
 go_ret
 rw [Nat.zero_add, List.nil_append] at hown
 exact ⟨_, rfl, hown, (Below.refl _ w).grown hgrow (Nat.le_refl _) (fun k e => by cases e)⟩
set_option maxRecDepth 100000 in
set_option maxHeartbeats 2000000 in
theorem copyI_src (x : Value) (l : List Int) (w : World) (hl : l.length ≤ 1048577) (h : SrcC w x 1 l.length (intCells l)) :
  Calls Tryz.prog 34 #[x] w fun e w' => ∃ y, e = .returned y ∧ w'.ownsRow w.heap.size 3 1 y l.length (intCells l) ∧ Below w.heap.size w w' := by
 obtain ⟨i0, hi, hz0, hz1, hz2⟩ := info_parts info3
 have HS : Hid (SrcC w x 1 l.length (intCells l)) := h
 obtain ⟨_, a, c, rfl, _⟩ := h
 go_enter Tryz.func34, Tryz.ntmps34
 go_wp2_with (at_builtin; refine wpList_append_src _ rfl _ _ 22 rfl w.heap.size 3 i0 _ 1 8 Tryz.underlying22 hi hz0 hz1 hz2 rfl (by decide) (.slice none 0 0) 0 [] rfl (World.ownsRow_nil w w.heap.size 3 1) (.slice a l.length c) l.length (intCells l) rfl HS.out (intCells_ones l) (by unfold maxLen; omega) (by omega) (Nat.le_refl _) ?_; intro v' w' hown hgrow hnew)
 go_ret
 rw [Nat.zero_add, List.nil_append] at hown
 exact ⟨_, rfl, hown, (Below.refl _ w).grown hgrow (Nat.le_refl _) (fun k e => by cases e)⟩
end Go.Proofs.YthfhibnnkpbeiaaGreat

/- Rows of one's own: what is copied into them, cleared, shifted. -/
namespace Go.Proofs.YthfhibnnkpbeiaaGreat
open Go.RowKit
theorem owns_block {w : World} {B : Nat} {e : TypeId} {size n cap g : Nat} {xs : List Value} (h : w.ownsRow B e size (.slice (some ⟨g, 0, none⟩) n cap) n xs) : ∃ cur : Array Value, w.heap[g]? = some (.cells cur e (0, 0)) ∧ B ≤ g ∧ n ≤ cap ∧ cap ≤ maxLen ∧ cur.size = cap * size ∧ cur.toList.take (n * size) = xs := by
 rcases h.2 with ⟨h', _⟩ | ⟨g', cap', cur, h', h1, h2, h3, h4, h5, h6⟩
 ·cases h'
 ·cases h'
  exact ⟨cur, h2, h1, h3, h4, h5, h6⟩
end Go.Proofs.YthfhibnnkpbeiaaGreat

/- What becomes of a part that hears of an event: in plain words. -/
namespace Go.Proofs.YthfhibnnkpbeiaaGreat
open Go.RowKit
def insP (l : List Ev) (e : Ev) : Nat := (l.takeWhile fun q => decide (q.cmp e < 0)).length
theorem insP_at : ∀ (l : List Ev) (e : Ev), InsAt l e (insP l e)
 | [], e => ⟨by simp [insP], fun j hj => by simp [insP] at hj, fun h => by simp [insP] at h⟩
 | q :: l, e => by
  by_cases h : q.cmp e < 0
  ·have e1 : insP (q :: l) e = insP l e + 1 := by simp [insP, h]
   obtain ⟨h1, h2, h3⟩ := insP_at l e
   rw [e1]
   refine ⟨by simpa using h1, fun j hj => ?_, fun hlt => ?_⟩
   ·cases j with
    | zero => simpa [evAt] using h
    | succ j => simpa [evAt] using h2 j (by omega)
   ·have := h3 (by simpa using hlt)
    simpa [evAt] using this
  ·have e1 : insP (q :: l) e = 0 := by simp [insP, h]
   rw [e1]
   exact ⟨Nat.zero_le _, fun j hj => by omega, fun _ => by simpa [evAt] using h⟩
theorem InsAt.uniq {l : List Ev} {e : Ev} {i j : Nat} (hi : InsAt l e i) (hj : InsAt l e j) : i = j := by
 rcases Nat.lt_trichotomy i j with hl | hl | hl
 ·exact absurd (hj.2.1 i hl) (hi.2.2 (by have := hj.1; omega))
 ·exact hl
 ·exact absurd (hi.2.1 j hl) (hj.2.2 (by have := hi.1; omega))
theorem InsAt.is {l : List Ev} {e : Ev} {i : Nat} (h : InsAt l e i) : i = insP l e := h.uniq (insP_at l e)
end Go.Proofs.YthfhibnnkpbeiaaGreat

