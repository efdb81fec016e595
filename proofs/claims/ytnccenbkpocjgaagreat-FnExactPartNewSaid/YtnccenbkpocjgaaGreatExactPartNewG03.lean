/- NCm, Evs -/
import Derived.Test.YtnccenbkpocjgaaGreatExactPartNewG02
import Derived.OwnWalk
/- The program's EventCmp at two events that are fit: what it lays, and that it draws. -/
namespace Go.Proofs.YtnccenbkpocjgaaGreat
open Go.RowKit
set_option maxHeartbeats 2000000 in
theorem iOkD (t s q d k v g : Int) (h : okB t s q d k v g = true) (w : World) :
  Calls Tryz.prog 62 #[.agg #[.int .i64 t, .int .i64 s, .int .i64 q, .int .i64 d, .int .i64 k, .int .i64 v, .int .i64 g]] w fun e w' =>
   e = .returned (.bool true) ∧ Below w.heap.size w w' ∧ w.drawn ≤ w'.drawn := by
 rw [← h]
 clear h
 go_enter Tryz.func62, Tryz.ntmps62
 go_wp2
 all_goals
  go_ret
  refine ⟨?_, (Below.refl _ _).alloc (Nat.le_refl _) _, Nat.le_refl _⟩
  first | exact ret_dec (by simp [okB]; omega) | exact ret_bool (by simp [okB]; omega)
set_option maxHeartbeats 2000000 in
theorem iCmpD (t s q d k v g t' s' q' d' k' v' g' : Int) (h1 : okB t s q d k v g = true) (h2 : okB t' s' q' d' k' v' g' = true) (w : World) :
  Calls Tryz.prog 42 #[.agg #[.int .i64 t, .int .i64 s, .int .i64 q, .int .i64 d, .int .i64 k, .int .i64 v, .int .i64 g], .agg #[.int .i64 t', .int .i64 s', .int .i64 q', .int .i64 d', .int .i64 k', .int .i64 v', .int .i64 g']] w fun e w' =>
   e = .returned (.int .i64 (cmpI t s q g t' s' q' g')) ∧ Below w.heap.size w w' ∧ w.drawn ≤ w'.drawn := by
 have H1 : Hid (okB t s q d k v g = true) := h1
 have H2 : Hid (okB t' s' q' d' k' v' g' = true) := h2
 clear h1 h2
 go_enter Tryz.func42, Tryz.ntmps42
 go_wp2_with fail
 refine (iOkD t s q d k v g H1.out _).mono ?_
 rintro e w1 ⟨rfl, hb1, hd1⟩
 obtain ⟨hc, hf⟩ := bcell hb1
 go_wp2_with fail
 refine (iOkD t' s' q' d' k' v' g' H2.out _).mono ?_
 rintro e w2 ⟨rfl, hb2, hd2⟩
 have hz1 : w.heap.size + 1 < w1.heap.size := by have := hb1.size; simp at this; omega
 have hz2 : w.heap.size + 1 < w2.heap.size := by have := hb2.size; omega
 obtain ⟨hc2, hf2⟩ := bcell hb2
 have f0 : w2.cell? ⟨w.heap.size, 0, none⟩ = some (.int .i64 t) := by rw [hc2 _ _ (by omega), hc _ _ (by simp; omega)]; simp
 have f1 : w2.cell? ⟨w.heap.size, 1, none⟩ = some (.int .i64 s) := by rw [hc2 _ _ (by omega), hc _ _ (by simp; omega)]; simp
 have f2 : w2.cell? ⟨w.heap.size, 2, none⟩ = some (.int .i64 q) := by rw [hc2 _ _ (by omega), hc _ _ (by simp; omega)]; simp
 have f6 : w2.cell? ⟨w.heap.size, 6, none⟩ = some (.int .i64 g) := by rw [hc2 _ _ (by omega), hc _ _ (by simp; omega)]; simp
 have e0 : w2.cell? ⟨w.heap.size + 1, 0, none⟩ = some (.int .i64 t') := by rw [hc2 _ _ (by omega), hc _ _ (by simp)]; simp
 have e1 : w2.cell? ⟨w.heap.size + 1, 1, none⟩ = some (.int .i64 s') := by rw [hc2 _ _ (by omega), hc _ _ (by simp)]; simp
 have e2 : w2.cell? ⟨w.heap.size + 1, 2, none⟩ = some (.int .i64 q') := by rw [hc2 _ _ (by omega), hc _ _ (by simp)]; simp
 have e6 : w2.cell? ⟨w.heap.size + 1, 6, none⟩ = some (.int .i64 g') := by rw [hc2 _ _ (by omega), hc _ _ (by simp)]; simp
 have hB : Below w.heap.size w w2 := ((((Below.refl _ _).alloc (Nat.le_refl _) _).alloc (by simp) _).trans (hb1.mono (by simp; omega))).trans (hb2.mono (by omega))
 have HDR : Hid (w.drawn ≤ w2.drawn + 1) := (by have h9 : w.drawn ≤ w1.drawn := hd1; exact Nat.le_succ_of_le (Nat.le_trans h9 hd2) : w.drawn ≤ w2.drawn + 1)
 clear hc hf hc2 hf2 hb1 hb2 hz1 hd1 hd2
 go_wp2_with fail
 go_region_held3 (fun W => W.cell? ⟨w.heap.size, 0, none⟩ = some (.int .i64 t) ∧ W.cell? ⟨w.heap.size, 1, none⟩ = some (.int .i64 s) ∧ W.cell? ⟨w.heap.size, 2, none⟩ = some (.int .i64 q) ∧ W.cell? ⟨w.heap.size, 6, none⟩ = some (.int .i64 g) ∧ W.cell? ⟨w.heap.size + 1, 0, none⟩ = some (.int .i64 t') ∧ W.cell? ⟨w.heap.size + 1, 1, none⟩ = some (.int .i64 s') ∧ W.cell? ⟨w.heap.size + 1, 2, none⟩ = some (.int .i64 q') ∧ W.cell? ⟨w.heap.size + 1, 6, none⟩ = some (.int .i64 g')) (go_keep)
  (first
   | (go_at_call 97; refine (compare_any _ _ _).mono ?_; rintro e w' ⟨rfl, rfl⟩)
   | (go_at_call 96; refine (or_any _ _ [num t t', num s s', num q q', num g g'] _ ?_ ?_).mono ?_; (simp [maxLen]); (intro i hi; have h4 : i = 0 ∨ i = 1 ∨ i = 2 ∨ i = 3 := (by simp at hi; omega); rcases h4 with rfl | rfl | rfl | rfl <;> simp); rintro e w' ⟨rfl, rfl⟩))
 go_wp2
 go_ret
 exact ⟨ret_int (by rw [orL_cmp]), hB.drew.alloc (by simp; omega) _, HDR.out⟩
end Go.Proofs.YtnccenbkpocjgaaGreat

/- A list of events in memory, as the walks see it. -/
namespace Go.Proofs.YtnccenbkpocjgaaGreat
open Go.RowKit
abbrev Ev.val (e : Ev) : Value := .agg #[.int .i64 e.t, .int .i64 e.s, .int .i64 e.q, .int .i64 e.d, .int .i64 e.k, .int .i64 e.v, .int .i64 e.g]
abbrev Ev.In (w : World) (b o : Nat) (e : Ev) : Prop := EvAt w b o e.t e.s e.q e.d e.k e.v e.g
def EvsAt (w : World) (b off : Nat) (l : List Ev) : Prop := b < w.heap.size ∧ ∀ i, i < l.length → Ev.In w b (off + i * 7) (evAt l i)
def IsEvs (w : World) (x : Value) (l : List Ev) : Prop := ∃ a cap, x = .slice a l.length cap ∧ l.length ≤ cap ∧ cap ≤ maxLen ∧ (l = [] ∨ ∃ b off, a = some ⟨b, off, none⟩ ∧ EvsAt w b off l)
theorem EvsAt.below {w w' : World} {B b off : Nat} {l : List Ev} (h : EvsAt w b off l) (hb : Below B w w') (hB : b < B) : EvsAt w' b off l :=
 ⟨Nat.lt_of_lt_of_le h.1 hb.size, fun i hi => (h.2 i hi).below hb hB⟩
theorem IsEvs.below {w w' : World} {x : Value} {l : List Ev} (h : IsEvs w x l) (hb : Below w.heap.size w w') : IsEvs w' x l := by
 obtain ⟨a, cap, rfl, h1, h2, h⟩ := h
 refine ⟨a, cap, rfl, h1, h2, ?_⟩
 rcases h with h | ⟨b, off, rfl, h⟩
 ·exact .inl h
 ·exact .inr ⟨b, off, rfl, h.below hb h.1⟩
def RowTo (w : World) (g n : Nat) (l : List Ev) (k : Nat) : Prop := g < w.heap.size ∧ (∀ j, j < n * 7 → (w.cell? ⟨g, j, none⟩).isSome = true ∧ w.frozen? ⟨g, j, none⟩ = false) ∧ ∀ i, i < k → Ev.In w g (i * 7) (evAt l i)
theorem RowTo.made {w w1 : World} {z : List Value} {n : Nat} {l : List Ev} (h : w1.ownsRow w.heap.size 55 7 (.slice (some ⟨w.heap.size, 0, none⟩) n n) n z) : RowTo w1 w.heap.size n l 0 := by
 obtain ⟨hl, h | ⟨g, cap, cur, e, hg, hc, h1, h2, h3, h4⟩⟩ := h
 ·simp at h
 ·simp at e
  obtain ⟨rfl, rfl⟩ := e
  have hlt : w.heap.size < w1.heap.size := (Array.getElem?_eq_some_iff.1 hc).1
  refine ⟨hlt, fun j hj => ?_, fun i hi => by omega⟩
  simp [World.cell?, World.frozen?, hc, h3, hj]
theorem RowTo.below {w w' : World} {B g n k : Nat} {l : List Ev} (h : RowTo w g n l k) (hb : Below B w w') (hB : g < B) : RowTo w' g n l k :=
 ⟨Nat.lt_of_lt_of_le h.1 hb.size, fun j hj => by rw [hb.cell (p := ⟨g, j, none⟩) hB, hb.frozen (p := ⟨g, j, none⟩) hB]; exact h.2.1 j hj, fun i hi => (h.2.2 i hi).below hb hB⟩
abbrev put7 (w : World) (g o : Nat) (e : Ev) : World :=
 ((((((w.setCell ⟨g, o, none⟩ (.int .i64 e.t)).setCell ⟨g, o + 1, none⟩ (.int .i64 e.s)).setCell ⟨g, o + 2, none⟩ (.int .i64 e.q)).setCell ⟨g, o + 3, none⟩ (.int .i64 e.d)).setCell ⟨g, o + 4, none⟩ (.int .i64 e.k)).setCell ⟨g, o + 5, none⟩ (.int .i64 e.v)).setCell ⟨g, o + 6, none⟩ (.int .i64 e.g)
theorem put7_eq (w : World) (g o : Nat) (e : Ev) : put7 w g o e = w.setCells g o [.int .i64 e.t, .int .i64 e.s, .int .i64 e.q, .int .i64 e.d, .int .i64 e.k, .int .i64 e.v, .int .i64 e.g] := rfl
theorem put7_in {w : World} {g o : Nat} (e : Ev) (h : ∀ j, j < 7 → (w.cell? ⟨g, o + j, none⟩).isSome = true) : Ev.In (put7 w g o e) g o e := by
 rw [put7_eq]
 have hin := World.cell?_setCells_in g [.int .i64 e.t, .int .i64 e.s, .int .i64 e.q, .int .i64 e.d, .int .i64 e.k, .int .i64 e.v, .int .i64 e.g] o w (by simpa using h)
 exact ⟨hin 0 (by simp), hin 1 (by simp), hin 2 (by simp), hin 3 (by simp), hin 4 (by simp), hin 5 (by simp), hin 6 (by simp)⟩
theorem put7_out {w : World} {g o : Nat} (e : Ev) {b p : Nat} (h : b = g → p < o ∨ o + 7 ≤ p) : (put7 w g o e).cell? ⟨b, p, none⟩ = w.cell? ⟨b, p, none⟩ := by
 rw [put7_eq]
 exact World.cell?_setCells_out g _ o w ⟨b, p, none⟩ (fun hb _ => by simpa using h hb)
theorem put7_evIn {w : World} {g o b p : Nat} (e e' : Ev) (h : Ev.In w b p e') (hd : b = g → p + 7 ≤ o ∨ o + 7 ≤ p) : Ev.In (put7 w g o e) b p e' := by
 have h0 := fun j (_ : j < 7) => put7_out (w := w) (g := g) (o := o) e (b := b) (p := p + j) (fun hb => by have := hd hb; omega)
 exact ⟨(h0 0 (by omega)).trans h.f0, (h0 1 (by omega)).trans h.f1, (h0 2 (by omega)).trans h.f2, (h0 3 (by omega)).trans h.f3, (h0 4 (by omega)).trans h.f4, (h0 5 (by omega)).trans h.f5, (h0 6 (by omega)).trans h.f6⟩
theorem put7_some {w : World} {g o : Nat} (e : Ev) (h : ∀ j, j < 7 → (w.cell? ⟨g, o + j, none⟩).isSome = true) {p : Nat} (hp : (w.cell? ⟨g, p, none⟩).isSome = true) : ((put7 w g o e).cell? ⟨g, p, none⟩).isSome = true := by
 by_cases hr : p < o ∨ o + 7 ≤ p
 ·rw [put7_out e (fun _ => hr)]; exact hp
 ·obtain ⟨j, rfl⟩ : ∃ j, p = o + j := ⟨p - o, by omega⟩
  rw [put7_eq, World.cell?_setCells_in g _ o w (by simpa using h) j (by simp; omega)]
  rfl
theorem put7_frozen (w : World) (g o : Nat) (e : Ev) (a : Addr) : (put7 w g o e).frozen? a = w.frozen? a := by rw [put7_eq]; exact World.frozen?_setCells _ _ _ _ _
theorem put7_size (w : World) (g o : Nat) (e : Ev) : (put7 w g o e).heap.size = w.heap.size := by simp
theorem put7_below {B : Nat} {a w : World} (h : Below B a w) {g : Nat} (hg : B ≤ g) (o : Nat) (e : Ev) : Below B a (put7 w g o e) :=
 ((((((h.setCell (p := ⟨g, o, none⟩) hg _).setCell (p := ⟨g, o + 1, none⟩) hg _).setCell (p := ⟨g, o + 2, none⟩) hg _).setCell (p := ⟨g, o + 3, none⟩) hg _).setCell (p := ⟨g, o + 4, none⟩) hg _).setCell (p := ⟨g, o + 5, none⟩) hg _).setCell (p := ⟨g, o + 6, none⟩) hg _
theorem RowTo.put {w : World} {g n k : Nat} {l : List Ev} (h : RowTo w g n l k) (hk : k < n) : RowTo (put7 w g (k * 7) (evAt l k)) g n l (k + 1) := by
 obtain ⟨h1, h2, h3⟩ := h
 have hs : ∀ j, j < 7 → (w.cell? ⟨g, k * 7 + j, none⟩).isSome = true := fun j hj => (h2 _ (by omega)).1
 refine ⟨by rw [put7_size]; exact h1, fun j hj => ⟨put7_some _ hs (h2 j hj).1, by rw [put7_frozen]; exact (h2 j hj).2⟩, fun i hi => ?_⟩
 by_cases e : i = k
 ·subst e; exact put7_in _ hs
 ·exact put7_evIn _ _ (h3 i (by omega)) (fun _ => by omega)
theorem RowTo.cells {w : World} {g n k : Nat} {l : List Ev} (h : RowTo w g n l k) {i : Nat} (hi : i < n) : ∃ c0 c1 c2 c3 c4 c5 c6, (w.cell? ⟨g, i * 7, none⟩ = some c0 ∧ w.cell? ⟨g, i * 7 + 1, none⟩ = some c1 ∧ w.cell? ⟨g, i * 7 + 2, none⟩ = some c2 ∧ w.cell? ⟨g, i * 7 + 3, none⟩ = some c3 ∧ w.cell? ⟨g, i * 7 + 4, none⟩ = some c4 ∧ w.cell? ⟨g, i * 7 + 5, none⟩ = some c5 ∧ w.cell? ⟨g, i * 7 + 6, none⟩ = some c6) ∧
  (w.frozen? ⟨g, i * 7, none⟩ = false ∧ w.frozen? ⟨g, i * 7 + 1, none⟩ = false ∧ w.frozen? ⟨g, i * 7 + 2, none⟩ = false ∧ w.frozen? ⟨g, i * 7 + 3, none⟩ = false ∧ w.frozen? ⟨g, i * 7 + 4, none⟩ = false ∧ w.frozen? ⟨g, i * 7 + 5, none⟩ = false ∧ w.frozen? ⟨g, i * 7 + 6, none⟩ = false) := by
 have hh : ∀ j, j < 7 → (∃ c, w.cell? ⟨g, i * 7 + j, none⟩ = some c) ∧ w.frozen? ⟨g, i * 7 + j, none⟩ = false := fun j hj => ⟨Option.isSome_iff_exists.1 (h.2.1 _ (by omega)).1, (h.2.1 _ (by omega)).2⟩
 obtain ⟨⟨c0, g0⟩, z0⟩ := hh 0 (by omega)
 obtain ⟨⟨c1, g1⟩, z1⟩ := hh 1 (by omega)
 obtain ⟨⟨c2, g2⟩, z2⟩ := hh 2 (by omega)
 obtain ⟨⟨c3, g3⟩, z3⟩ := hh 3 (by omega)
 obtain ⟨⟨c4, g4⟩, z4⟩ := hh 4 (by omega)
 obtain ⟨⟨c5, g5⟩, z5⟩ := hh 5 (by omega)
 obtain ⟨⟨c6, g6⟩, z6⟩ := hh 6 (by omega)
 exact ⟨c0, c1, c2, c3, c4, c5, c6, ⟨g0, g1, g2, g3, g4, g5, g6⟩, ⟨z0, z1, z2, z3, z4, z5, z6⟩⟩
theorem info25 : (Tryz.prog.info? 55).map (fun i => (i.zero, i.size, i.bytes)) = some (some (.agg #[.int .i64 0, .int .i64 0, .int .i64 0, .int .i64 0, .int .i64 0, .int .i64 0, .int .i64 0]), 7, 56) := by kernel_rfl
set_option maxHeartbeats 1000000 in
theorem toEventS_any (x : Value) (l : List Ev) (w : World) (hl : l.length ≤ 1048576) (h : IsEvs w x l) :
  Calls Tryz.prog 38 #[x] w fun e w' => e = .returned (.slice (some ⟨w.heap.size, 0, none⟩) l.length l.length) ∧ Below w.heap.size w w' ∧ RowTo w' w.heap.size l.length l l.length := by
 obtain ⟨a, cap, rfl, h1, h2, h⟩ := h
 rcases h with rfl | ⟨b, off, rfl, hb, h⟩
 ·obtain ⟨i0, hi, hz0, hz1, hz2⟩ := info_parts info25
  go_enter Tryz.func38, Tryz.ntmps38
  go_wp2_with (at_make; refine wpList_make_full _ rfl _ _ 31 rfl w.heap.size 55 i0 _ 7 Tryz.underlying31 hi hz0 hz1 .i64 .i64 0 0 0 rfl rfl rfl rfl (by rw [hz2]; omega) (by unfold maxLen; omega) (Nat.le_refl _) ?_; intro w1 hown hgrow)
  have hB1 : Below w.heap.size w w1 := (Below.refl _ _).grown hgrow (Nat.le_refl _) (fun k e => by cases e)
  have hR1 : RowTo w1 w.heap.size 0 [] 0 := RowTo.made hown
  clear hown hgrow hi hz0 hz1 hz2
  go_loop [4] (fun i => i = .int .i64 0) (fun _ => 0)
  case atStart => rfl
  case round =>
   subst hrel
   go_wp2
   go_ret
   exact ⟨rfl, hB1, hR1⟩
 ·have hp : (0 : Int) ≤ (l.length : Int) := by omega
  obtain ⟨i0, hi, hz0, hz1, hz2⟩ := info_parts info25
  go_enter Tryz.func38, Tryz.ntmps38
  go_wp2_with (at_make; refine wpList_make_full _ rfl _ _ 31 rfl w.heap.size 55 i0 _ 7 Tryz.underlying31 hi hz0 hz1 .i64 .i64 l.length l.length l.length rfl rfl rfl rfl (by rw [hz2]; omega) (by unfold maxLen; omega) (Nat.le_refl _) ?_; intro w1 hown hgrow)
  have hB1 : Below w.heap.size w w1 := (Below.refl _ _).grown hgrow (Nat.le_refl _) (fun k e => by cases e)
  have hR1 : RowTo w1 w.heap.size l.length l 0 := RowTo.made hown
  clear hown hgrow hi hz0 hz1 hz2
  go_loopw [4] (fun i wr => ∃ k : Nat, k ≤ l.length ∧ i = .int .i64 k ∧ Below w.heap.size w wr ∧ RowTo wr w.heap.size l.length l k) (fun i _ => l.length - (intOf i).toNat)
  case atStart => exact ⟨0, Nat.zero_le _, rfl, hB1, hR1⟩
  case round =>
   obtain ⟨k, hk, rfl, hB, hR⟩ := hrel
   have HB : Hid (Below w.heap.size w wr) := hB
   have HR : Hid (RowTo wr w.heap.size l.length l k) := hR
   by_cases hlt : k < l.length
   ·obtain ⟨f0, f1, f2, f3, f4, f5, f6⟩ := (h k hlt).below hB hb
    clear hB hR hB1 hR1 h
    have hg : w.heap.size < wr.heap.size := HR.out.1
    go_wp2_with (go_at_call 19; refine (toEvent_any _ _ _ _ _ _ _ _).mono ?_; rintro e w2 ⟨rfl, hb2⟩; have HR2 : Hid (RowTo w2 w.heap.size l.length l k) := HR.out.below hb2 hg; obtain ⟨c0, c1, c2, c3, c4, c5, c6, ⟨g0, g1, g2, g3, g4, g5, g6⟩, ⟨z0, z1, z2, z3, z4, z5, z6⟩⟩ := HR2.out.cells hlt)
    go_roundw
    case rel => exact ⟨k + 1, by omega, by go_num, put7_below (HB.out.trans (hb2.mono (by omega))) (Nat.le_refl _) _ _, HR2.out.put hlt⟩
    case measure => simp [intOf]; omega
   ·clear hB hR hB1 hR1 h
    go_wp2
    go_ret
    obtain rfl : k = l.length := by omega
    exact ⟨rfl, HB.out, HR.out⟩
end Go.Proofs.YtnccenbkpocjgaaGreat

