/- NCm, SoE, SlCe, SrL, PDb, PGf -/
import Derived.Test.YthfhibnnkpbeiaaGreatExactWorldNewG24
import Derived.Sort.Statements
import Derived.Sort.Grow
import Derived.Deep.Draws
import Derived.Test.YthfhibnnkpbeiaaGreatExactWorldNewG25
import Derived.Test.YthfhibnnkpbeiaaGreatExactWorldNewG39
import Derived.Test.YthfhibnnkpbeiaaGreatExactWorldNewLInsD
import Derived.Shelf.SlSortCmp.SmallK
import Derived.Shelf.Small.Bits
import Derived.Test.YthfhibnnkpbeiaaGreatExactWorldNewG23
import Derived.Test.YthfhibnnkpbeiaaGreatExactWorldNewG01
import Derived.Test.YthfhibnnkpbeiaaGreatExactWorldNewG07
import Derived.Laws.OwnMore
import Derived.WalkSmall
import Derived.BigRegion
import Derived.Deep.RegionHeld3
import Derived.Test.YthfhibnnkpbeiaaGreatExactWorldNewG06
import Derived.Test.YthfhibnnkpbeiaaGreatExactWorldNewLTPsE
import Derived.Test.YthfhibnnkpbeiaaGreatExactWorldNewG09
import Derived.Deep.Cut
import Derived.Test.YthfhibnnkpbeiaaGreatExactWorldNewG13
import Derived.Sort.BigQuietIn
import Derived.OrdersIn
import Derived.RangeFuncCalls
import Derived.RangeFuncLeaves
import Derived.RangeFuncBox
import Derived.RangeFuncBound
import Derived.RangeFuncNested
/- The program's EventCmp at two events that are fit: what it lays, and that it draws. -/
namespace Go.Proofs.YthfhibnnkpbeiaaGreat
open Go.RowKit
theorem hidNCm {p : Prop} (h : p) : Hid p := h
set_option maxHeartbeats 2000000 in
theorem iOkD (t s q d k v g : Int) (h : okB t s q d k v g = true) (w : World) :
  Calls Tryz.prog 98 #[.agg #[.int .i64 t, .int .i64 s, .int .i64 q, .int .i64 d, .int .i64 k, .int .i64 v, .int .i64 g]] w fun e w' =>
   e = .returned (.bool true) ∧ Below w.heap.size w w' ∧ w.drawn ≤ w'.drawn := by
 rw [← h]
 clear h
 go_enter Tryz.func98, Tryz.ntmps98
 go_wp2
 all_goals
  go_ret
  refine ⟨?_, (Below.refl _ _).alloc (Nat.le_refl _) _, Nat.le_refl _⟩
  first | exact ret_dec (by simp [okB]; omega) | exact ret_bool (by simp [okB]; omega)
set_option maxHeartbeats 2000000 in
theorem iCmpD (t s q d k v g t' s' q' d' k' v' g' : Int) (h1 : okB t s q d k v g = true) (h2 : okB t' s' q' d' k' v' g' = true) (w : World) :
  Calls Tryz.prog 82 #[.agg #[.int .i64 t, .int .i64 s, .int .i64 q, .int .i64 d, .int .i64 k, .int .i64 v, .int .i64 g], .agg #[.int .i64 t', .int .i64 s', .int .i64 q', .int .i64 d', .int .i64 k', .int .i64 v', .int .i64 g']] w fun e w' =>
   e = .returned (.int .i64 (cmpI t s q g t' s' q' g')) ∧ Below w.heap.size w w' ∧ w.drawn ≤ w'.drawn := by
 have H1 := hidNCm h1
 have H2 := hidNCm h2
 clear h1 h2
 go_enter Tryz.func82, Tryz.ntmps82
 go_wp2_with fail
 refine (iOkD t s q d k v g H1.out _).mono ?_
 rintro e w1 ⟨rfl, hb1, hd1⟩
 obtain ⟨hc, hf⟩ := bcell hb1
 go_wp2_with fail
 refine (iOkD t' s' q' d' k' v' g' H2.out _).mono ?_
 rintro e w2 ⟨rfl, hb2, hd2⟩
 have hz1 : w.heap.size + 1 < w1.heap.size := by have := hb1.size; simp at this; omega
 have hz2 : w.heap.size + 1 < w2.heap.size := by have := hb2.size; omega
 obtain ⟨hc2, hf2⟩ := bcell hb2
 have f0 : w2.cell? ⟨w.heap.size, 0, none⟩ = some (.int .i64 t) := by rw [hc2 _ _ (by omega), hc _ _ (by simp; omega)]; simp
 have f1 : w2.cell? ⟨w.heap.size, 1, none⟩ = some (.int .i64 s) := by rw [hc2 _ _ (by omega), hc _ _ (by simp; omega)]; simp
 have f2 : w2.cell? ⟨w.heap.size, 2, none⟩ = some (.int .i64 q) := by rw [hc2 _ _ (by omega), hc _ _ (by simp; omega)]; simp
 have f6 : w2.cell? ⟨w.heap.size, 6, none⟩ = some (.int .i64 g) := by rw [hc2 _ _ (by omega), hc _ _ (by simp; omega)]; simp
 have e0 : w2.cell? ⟨w.heap.size + 1, 0, none⟩ = some (.int .i64 t') := by rw [hc2 _ _ (by omega), hc _ _ (by simp)]; simp
 have e1 : w2.cell? ⟨w.heap.size + 1, 1, none⟩ = some (.int .i64 s') := by rw [hc2 _ _ (by omega), hc _ _ (by simp)]; simp
 have e2 : w2.cell? ⟨w.heap.size + 1, 2, none⟩ = some (.int .i64 q') := by rw [hc2 _ _ (by omega), hc _ _ (by simp)]; simp
 have e6 : w2.cell? ⟨w.heap.size + 1, 6, none⟩ = some (.int .i64 g') := by rw [hc2 _ _ (by omega), hc _ _ (by simp)]; simp
 have hB : Below w.heap.size w w2 := ((((Below.refl _ _).alloc (Nat.le_refl _) _).alloc (by simp) _).trans (hb1.mono (by simp; omega))).trans (hb2.mono (by omega))
 have HDR : Hid (w.drawn ≤ w2.drawn + 1) := (by have h9 : w.drawn ≤ w1.drawn := hd1; exact Nat.le_succ_of_le (Nat.le_trans h9 hd2) : w.drawn ≤ w2.drawn + 1)
 clear hc hf hc2 hf2 hb1 hb2 hz1 hd1 hd2
 go_wp2_with fail
 go_region_held3 (fun W => W.cell? ⟨w.heap.size, 0, none⟩ = some (.int .i64 t) ∧ W.cell? ⟨w.heap.size, 1, none⟩ = some (.int .i64 s) ∧ W.cell? ⟨w.heap.size, 2, none⟩ = some (.int .i64 q) ∧ W.cell? ⟨w.heap.size, 6, none⟩ = some (.int .i64 g) ∧ W.cell? ⟨w.heap.size + 1, 0, none⟩ = some (.int .i64 t') ∧ W.cell? ⟨w.heap.size + 1, 1, none⟩ = some (.int .i64 s') ∧ W.cell? ⟨w.heap.size + 1, 2, none⟩ = some (.int .i64 q') ∧ W.cell? ⟨w.heap.size + 1, 6, none⟩ = some (.int .i64 g')) (go_keep)
  (first
   | (go_at_call 107; refine (compare_any _ _ _).mono ?_; rintro e w' ⟨rfl, rfl⟩)
   | (go_at_call 106; refine (or_any _ _ [num t t', num s s', num q q', num g g'] _ ?_ ?_).mono ?_; (simp [maxLen]); (intro i hi; have h4 : i = 0 ∨ i = 1 ∨ i = 2 ∨ i = 3 := (by simp at hi; omega); rcases h4 with rfl | rfl | rfl | rfl <;> simp); rintro e w' ⟨rfl, rfl⟩))
 go_wp2
 go_ret
 exact ⟨ret_int (by rw [orL_cmp]), hB.drew.alloc (by simp; omega) _, HDR.out⟩
end Go.Proofs.YthfhibnnkpbeiaaGreat

/- The order of events as slices.SortFunc asks it; what EventCmp lays, as it asks it. -/
namespace Go.Proofs.YthfhibnnkpbeiaaGreat
open Go.RowKit
theorem cmp_lt_iff (a b : Ev) : a.cmp b < 0 ↔ a.t < b.t ∨ a.t = b.t ∧ (a.s < b.s ∨ a.s = b.s ∧ (a.q < b.q ∨ a.q = b.q ∧ a.g < b.g)) := cmpI_lt _ _ _ _ _ _ _ _
abbrev EvF : Type := {e : Ev // e.ok = true}
theorem swoE : Go.Sort.SWO (fun x y : EvF => decide (x.1.cmp y.1 < 0)) where
 irrefl x := by simp only [decide_eq_false_iff_not, cmp_lt_iff]; omega
 trans x y z h1 h2 := by simp only [decide_eq_true_eq, cmp_lt_iff] at *; omega
 ntrans x y z h1 h2 := by simp only [decide_eq_false_iff_not, cmp_lt_iff] at *; omega
theorem lay_of {W w' : World} (h : Below W.heap.size W w') (hd : W.drawn ≤ w'.drawn) : ∃ q os', w' = Go.Sort.grow (W.drewN q) os' := by
 refine ⟨w'.drawn - W.drawn, w'.heap.extract W.heap.size w'.heap.size, ?_⟩
 have hh : w'.heap = W.heap ++ w'.heap.extract W.heap.size w'.heap.size := by
  refine Array.ext_getElem? fun k => ?_
  by_cases hk : k < W.heap.size
  ·rw [Array.getElem?_append_left hk]
   exact h.block k hk
  ·rw [Array.getElem?_append_right (by omega), Array.getElem?_extract]
   by_cases hk2 : k < w'.heap.size
   ·rw [if_pos (by omega), show W.heap.size + (k - W.heap.size) = k by omega]
   ·rw [if_neg (by omega), Array.getElem?_eq_none (by omega)]
 obtain ⟨hp, tp, dr, os, ou⟩ := w'
 have h1 := h.os
 have h2 := h.tape
 have h3 := h.output
 dsimp only at h1 h2 h3 hh hd ⊢
 unfold Go.Sort.grow World.drewN
 subst h1 h2 h3
 dsimp only
 rw [← hh, show W.drawn + (dr - W.drawn) = dr by omega]
end Go.Proofs.YthfhibnnkpbeiaaGreat

/- Slices that are cut. -/
namespace Go.Proofs.YthfhibnnkpbeiaaGreat
open Go.RowKit
theorem infoSle : (Tryz.prog.info? 99).map (fun i => (i.zero, i.size, i.bytes)) = some (some (.agg #[.int .i64 0, .int .i64 0, .int .i64 0, .int .i64 0, .int .i64 0, .int .i64 0, .int .i64 0]), 7, 56) := by kernel_rfl
end Go.Proofs.YthfhibnnkpbeiaaGreat

/- slices.SortFunc over events that are fit (the shelf's contract, laid here). -/
namespace Go.Proofs.YthfhibnnkpbeiaaGreat
open Go.RowKit Go.Shelf Go.Lib Go.Sort
instance : Inhabited EvF := ⟨⟨⟨0, 0, 0, 0, 0, 0, 0⟩, by decide⟩⟩
def encE (x : EvF) : List Value := x.1.cs
abbrev cmpF (x y : EvF) : Int := x.1.cmp y.1
theorem cmpLaysE (blk off size : Nat) (w : World) : CmpLays Tryz.prog 82 #[] encE 7 cmpF blk off size w :=
 fun _ _ _ _ x y => (iCmpD x.1.t x.1.s x.1.q x.1.d x.1.k x.1.v x.1.g y.1.t y.1.s y.1.q y.1.d y.1.k y.1.v y.1.g x.2 y.2 _).mono fun _ _ ⟨h1, h2, h3⟩ => ⟨h1, lay_of h2 h3⟩
theorem aggE (w : World) : (isAgg 99).run Tryz.prog w = .ok true w := by simp [isAgg, go_sem]
theorem sizE (w : World) : (Go.sizeOf 99).run Tryz.prog w = .ok 7 w := by
 obtain ⟨i0, hi, hz0, hz1, hz2⟩ := info_parts infoSle
 simp [Go.sizeOf, typeInfo, hi, hz1]
theorem bitsE (n : Nat) (W : World) (h : n ≤ 12) : Calls Tryz.prog (Tryz.sortEv_ren.f 15) #[.int .u64 n] W fun e w' => (∃ l : Int, e = .returned (.int .i64 l)) ∧ w' = W :=
 (Any.bits_Len Tryz.bitsLen2 n W (by omega) (by omega)).mono fun _ _ ⟨he, hw⟩ => ⟨⟨_, he⟩, hw⟩
theorem sortF_any (blk off cap : Nat) (d : Array EvF) (w : World) (hH : HoldsK encE 7 w blk off d) (hblk : blk < w.heap.size) (h12 : d.size ≤ 12) :
  Calls Tryz.prog 81 #[.slice (some ⟨blk, off, none⟩) d.size cap, .func (.func 82) #[] #[]] w fun e w' => e = .returned (.tuple #[]) ∧ ∃ d' n os, PermIn 0 d.size d d' ∧ SortedIn (ltOf cmpF) 0 d.size d' ∧ w' = sortWorldK encE 7 w blk off n d' os := by
 have eg : ∀ args w, (callFunc 82 args).run Tryz.prog w = .ok (.enter 82 args) w := enters_of Tryz.func82 (by kernel_rfl) rfl
 have hcon := AnyQ.slices_SortFunc_small_sorted Tryz.sortEv 7 aggE sizE encE (fun _ => rfl) (fun x v hv => Ev.cs_one x.1 v hv) cmpF 82 #[] swoE blk off cap d w eg (cmpLaysE blk off d.size w) hH hblk h12 bitsE
 exact hcon
end Go.Proofs.YthfhibnnkpbeiaaGreat

/- slices.Backward over events: what it hands to its loop. -/
namespace Go.Proofs.YthfhibnnkpbeiaaGreat
open Go.RowKit Go.Shelf
attribute [local go_sem] Oper.semAt_some
end Go.Proofs.YthfhibnnkpbeiaaGreat

/- The program's goBack. -/
namespace Go.Proofs.YthfhibnnkpbeiaaGreat
open Go.RowKit Go.Shelf
attribute [local go_sem] Oper.semAt_some
theorem keepsOthers_of_turns {S : Nat → Prop} {W W' : World} (h : Turns S W W') (hS : ∀ k o, S k → W.heap[k]? = some o → o.isCells = true) : KeepsOthers W W' :=
 ⟨h.size, fun k o hk ho => (h.block k (Array.getElem?_eq_some_iff.1 hk).1 (fun hs => by have := hS k o hs hk; rw [ho] at this; cases this)).trans hk⟩
theorem row_cells {B : Nat} {T : TypeId} {c n : Nat} {w : World} {v : Value} {xs : List Value} (h : w.ownsRow B T c v n xs) {k : Nat} {o : Obj} (hk : v.ownBlock = some k) (ho : w.heap[k]? = some o) : o.isCells = true := by
 obtain ⟨_, ⟨rfl, _⟩ | ⟨g, cap, cur, rfl, _, hc, _⟩⟩ := h
 ·simp [Value.ownBlock] at hk
 ·obtain rfl : g = k := by simpa [Value.ownBlock] using hk
  rw [hc] at ho
  cases ho
  rfl
theorem bk_cells {w : World} {D : Nat} {T : TypeId} {vs : Array Value} {o : Obj} (h : Bk w D T vs) (ho : w.heap[D]? = some o) : o.isCells = true := by
 have h9 : w.heap[D]? = _ := h
 rw [h9] at ho
 cases ho
 rfl
end Go.Proofs.YthfhibnnkpbeiaaGreat

