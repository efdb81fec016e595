/- Eqs, MBox, MModel -/
import Derived.Test.YthfhibnnkpbeiaaGreatExactKernelNewG02
import Derived.Deep.RegionHeld3
import Derived.Test.YthfhibnnkpbeiaaGreatExactKernelNewG01
import Derived.Test.YthfhibnnkpbeiaaGreatExactKernelNewG04
/- eqEvent and eqEventS where both sides are the same. -/
namespace Go.Proofs.YthfhibnnkpbeiaaGreat
open Go.RowKit
set_option maxHeartbeats 1000000 in
theorem eqEvent_same (t s q d k v g : Int) (w : World) :
  Calls Tryz.prog 85 #[.agg #[.int .i64 t, .int .i64 s, .int .i64 q, .int .i64 d, .int .i64 k, .int .i64 v, .int .i64 g], .agg #[.int .i64 t, .int .i64 s, .int .i64 q, .int .i64 d, .int .i64 k, .int .i64 v, .int .i64 g]] w fun e w' => e = .returned (.bool true) ∧ Below w.heap.size w w' := by
 go_enter Tryz.func85, Tryz.ntmps85
 go_wp2
 go_ret
 exact ⟨rfl, ((Below.refl _ _).alloc (Nat.le_refl _) _).alloc (by simp) _⟩
set_option maxHeartbeats 1000000 in
theorem eqS_same (x y : Value) (l : List Ev) (w : World) (hl : l.length ≤ 1048576) (hx : IsEvs w x l) (hy : IsEvs w y l) :
  Calls Tryz.prog 38 #[x, y] w fun e w' => e = .returned (.bool true) ∧ Below w.heap.size w w' := by
 obtain ⟨a, cap, rfl, h1, h2, h⟩ := hx
 obtain ⟨a', cap', rfl, h1', h2', h'⟩ := hy
 clear h1 h2 h1' h2'
 by_cases hz : l = []
 ·subst hz
  clear h h'
  go_enter Tryz.func38, Tryz.ntmps38
  go_wp2
  go_loop [5] (fun i => i = .int .i64 0) (fun _ => 0)
  case atStart => rfl
  case round =>
   subst hrel
   go_wp2
   go_ret
   exact ⟨rfl, Below.refl _ _⟩
 ·obtain ⟨b, off, rfl, hb, hc⟩ := h.resolve_left hz
  obtain ⟨b', off', rfl, hb', hc'⟩ := h'.resolve_left hz
  clear h h' hz
  go_enter Tryz.func38, Tryz.ntmps38
  go_wp2
  go_loopw [5] (fun i wr => ∃ k : Nat, k ≤ l.length ∧ i = .int .i64 k ∧ Below w.heap.size w wr) (fun i _ => l.length - (intOf i).toNat)
  case atStart => exact ⟨0, Nat.zero_le _, rfl, Below.refl _ _⟩
  case round =>
   obtain ⟨k, hk, rfl, hB⟩ := hrel
   have HB : Hid (Below w.heap.size w wr) := hB
   by_cases hlt : k < l.length
   ·obtain ⟨f0, f1, f2, f3, f4, f5, f6⟩ := (hc k hlt).below hB hb
    obtain ⟨e0, e1, e2, e3, e4, e5, e6⟩ := (hc' k hlt).below hB hb'
    have hbr : b < wr.heap.size := Nat.lt_of_lt_of_le hb hB.size
    have hbr' : b' < wr.heap.size := Nat.lt_of_lt_of_le hb' hB.size
    clear hB hc hc'
    go_wp2_with fail
    go_region_held3 (fun W => W.cell? ⟨b, off + k * 7, none⟩ = some (.int .i64 (evAt l k).t) ∧ W.cell? ⟨b, off + k * 7 + 1, none⟩ = some (.int .i64 (evAt l k).s) ∧ W.cell? ⟨b, off + k * 7 + 2, none⟩ = some (.int .i64 (evAt l k).q) ∧ W.cell? ⟨b, off + k * 7 + 3, none⟩ = some (.int .i64 (evAt l k).d) ∧ W.cell? ⟨b, off + k * 7 + 4, none⟩ = some (.int .i64 (evAt l k).k) ∧ W.cell? ⟨b, off + k * 7 + 5, none⟩ = some (.int .i64 (evAt l k).v) ∧ W.cell? ⟨b, off + k * 7 + 6, none⟩ = some (.int .i64 (evAt l k).g) ∧ W.cell? ⟨b', off' + k * 7, none⟩ = some (.int .i64 (evAt l k).t) ∧ W.cell? ⟨b', off' + k * 7 + 1, none⟩ = some (.int .i64 (evAt l k).s) ∧ W.cell? ⟨b', off' + k * 7 + 2, none⟩ = some (.int .i64 (evAt l k).q) ∧ W.cell? ⟨b', off' + k * 7 + 3, none⟩ = some (.int .i64 (evAt l k).d) ∧ W.cell? ⟨b', off' + k * 7 + 4, none⟩ = some (.int .i64 (evAt l k).k) ∧ W.cell? ⟨b', off' + k * 7 + 5, none⟩ = some (.int .i64 (evAt l k).v) ∧ W.cell? ⟨b', off' + k * 7 + 6, none⟩ = some (.int .i64 (evAt l k).g)) ((repeat' apply And.intro) <;> first | (go_keep; done) | (rw [hcA _ _ (by first | omega | (simp; omega) | simp [*])]; simp [*]; done))
     (first | (go_at_call 85; refine (eqEvent_same _ _ _ _ _ _ _ _).mono ?_; rintro e w2 ⟨rfl, hb2⟩; obtain ⟨hcA, hfA⟩ := bcell hb2))
    clear hcA hfA
    go_wp2
    go_roundw
    case rel => exact ⟨k + 1, by omega, by go_num, HB.out.drew.trans (hb2.mono (by have := HB.out.size; simpa using this))⟩
    case measure => simp [intOf]; omega
   ·clear hB hc hc'
    go_wp2
    go_ret
    exact ⟨rfl, HB.out⟩
end Go.Proofs.YthfhibnnkpbeiaaGreat

/- A struct in a block of its own. -/
namespace Go.Proofs.YthfhibnnkpbeiaaGreat
open Go.RowKit
def Bk (w : World) (P : Nat) (T : TypeId) (vs : Array Value) : Prop := w.heap[P]? = some (.cells vs T)
theorem Bk.lt {w : World} {P : Nat} {T : TypeId} {vs : Array Value} (h : Bk w P T vs) : P < w.heap.size := (Array.getElem?_eq_some_iff.1 h).1
theorem Bk.cell {w : World} {P : Nat} {T : TypeId} {vs : Array Value} (h : Bk w P T vs) {i : Nat} {v : Value} (hv : vs[i]? = some v) : w.cell? ⟨P, i, none⟩ = some v := by
 have h' : w.heap[P]? = some (.cells vs T) := h
 unfold World.cell?
 simp [h', hv]
theorem Bk.free {w : World} {P : Nat} {T : TypeId} {vs : Array Value} (h : Bk w P T vs) (o : Nat) : w.frozen? ⟨P, o, none⟩ = false := by
 have h' : w.heap[P]? = some (.cells vs T) := h
 unfold World.frozen?
 simp [h']
theorem Bk.keep {w w' : World} {B P : Nat} {T : TypeId} {vs : Array Value} (h : Bk w P T vs) (hb : Below B w w') (hB : P < B) : Bk w' P T vs := (hb.block P hB).trans h
theorem Bk.below {w w' : World} {P : Nat} {T : TypeId} {vs : Array Value} (h : Bk w P T vs) (hb : Below w.heap.size w w') : Bk w' P T vs := h.keep hb h.lt
theorem Bk.turns {S : Nat → Prop} {w w' : World} {P : Nat} {T : TypeId} {vs : Array Value} (h : Bk w P T vs) (ht : Turns S w w') (hS : ¬ S P) : Bk w' P T vs := (ht.block P h.lt hS).trans h
theorem Bk.drew {w : World} {P : Nat} {T : TypeId} {vs : Array Value} (h : Bk w P T vs) : Bk w.drew P T vs := h
theorem Bk.new (w : World) (T : TypeId) (vs : Array Value) : Bk (w.alloc (.cells vs T)) w.heap.size T vs := by
 show (w.heap.push _)[w.heap.size]? = _
 simp
theorem Bk.newAt {w : World} {P : Nat} (hP : P = w.heap.size) (T : TypeId) (vs : Array Value) : Bk (w.alloc (.cells vs T)) P T vs := hP ▸ Bk.new w T vs
theorem Bk.alloc {w : World} {P : Nat} {T : TypeId} {vs : Array Value} (h : Bk w P T vs) (o : Obj) : Bk (w.alloc o) P T vs := h.keep ((Below.refl w.heap.size w).alloc (Nat.le_refl _) o) h.lt
theorem Bk.put {w : World} {P : Nat} {T : TypeId} {vs : Array Value} (h : Bk w P T vs) (i : Nat) (v : Value) : Bk (w.setCell ⟨P, i, none⟩ v) P T (vs.setIfInBounds i v) := by
 have h' : w.heap[P]? = some (.cells vs T) := h
 obtain ⟨hl, hv⟩ := Array.getElem?_eq_some_iff.1 h'
 unfold Bk
 simp [World.setCell, hl, Array.getElem_modify, hv]
theorem Bk.other {w : World} {P b : Nat} {T : TypeId} {vs : Array Value} (h : Bk w P T vs) (i : Nat) (v : Value) (hb : P ≠ b) : Bk (w.setCell ⟨b, i, none⟩ v) P T vs :=
 (Below.heap_setCell _ _ _ _ hb).trans h
theorem put1_turns (w : World) (g o : Nat) (u : Value) : Turns (fun b => b = g) w (w.setCell ⟨g, o, none⟩ u) := (Turns.refl (fun b => b = g) w).setCell (p := ⟨g, o, none⟩) rfl _
abbrev put6 (w : World) (R : Nat) (v0 v1 v2 v3 v4 v5 : Value) : World :=
 (((((w.setCell ⟨R, 0, none⟩ v0).setCell ⟨R, 1, none⟩ v1).setCell ⟨R, 2, none⟩ v2).setCell ⟨R, 3, none⟩ v3).setCell ⟨R, 4, none⟩ v4).setCell ⟨R, 5, none⟩ v5
theorem Bk.put6 {w : World} {R : Nat} {T : TypeId} {a0 a1 a2 a3 a4 a5 : Value} (h : Bk w R T #[a0, a1, a2, a3, a4, a5]) (v0 v1 v2 v3 v4 v5 : Value) : Bk (put6 w R v0 v1 v2 v3 v4 v5) R T #[v0, v1, v2, v3, v4, v5] :=
 (((((h.put 0 v0).put 1 v1).put 2 v2).put 3 v3).put 4 v4).put 5 v5
theorem put6_turns (w : World) (R : Nat) (v0 v1 v2 v3 v4 v5 : Value) : Turns (fun b => b = R) w (put6 w R v0 v1 v2 v3 v4 v5) :=
 (((((put1_turns w R 0 v0).trans (put1_turns _ R 1 v1)).trans (put1_turns _ R 2 v2)).trans (put1_turns _ R 3 v3)).trans (put1_turns _ R 4 v4)).trans (put1_turns _ R 5 v5)
end Go.Proofs.YthfhibnnkpbeiaaGreat

/- toModel, szModel, eqModel, markModel, heldModel. -/
namespace Go.Proofs.YthfhibnnkpbeiaaGreat
open Go.RowKit
structure SmallM (m : Md) : Prop where
 i : m.i.length ≤ 1048576
 h : m.h.length ≤ 1048576
 r : ∀ i, (hAt m.h i).length ≤ 1048576
 t : sumL (lens m.h) m.h.length ≤ 1048576
 e : m.e.length ≤ 1048576
theorem RowI.rowF {w : World} {g : Nat} {l : List Int} (h : RowI w g l) (hl : l.length ≤ maxLen) : RowF (fun k => k = g) w (sl g l.length) l.length 1 (intCells l) := by
 refine ⟨by simp [intCells], _, _, rfl, Nat.le_refl _, hl, .inr ⟨g, rfl, rfl, h.1, fun j hj => ⟨?_, (h.2 j (by omega)).2⟩⟩⟩
 have hj' : j < l.length := by omega
 rw [(h.2 j hj').1]
 simp [intCells, intAt, hj']
theorem RowTo.rowF {w : World} {g : Nat} {l : List Ev} (h : RowTo w g l.length l l.length) (hl : l.length ≤ maxLen) : RowF (fun k => k = g) w (sl g l.length) l.length 7 (cellsL l) := by
 refine ⟨cellsL_length l, _, _, rfl, Nat.le_refl _, hl, .inr ⟨g, rfl, rfl, h.1, fun j hj => ⟨?_, (h.2.1 j hj).2⟩⟩⟩
 have hi : j / 7 < l.length := by omega
 have e := cellsL_get l _ (j % 7) hi (by omega)
 rw [show j / 7 * 7 + j % 7 = j from by omega] at e
 have hlt : j < (cellsL l).length := by rw [cellsL_length]; exact hj
 rw [List.getElem?_eq_getElem hlt] at e ⊢
 have := (h.2.2 _ hi).get e.symm
 rw [show j / 7 * 7 + j % 7 = j from by omega] at this
 exact this
set_option maxHeartbeats 2000000 in
theorem toModel_any (x : Value) (m : Md) (w : World) (hs : SmallM m) (h : IsM w x m) :
  Calls Tryz.prog 7 #[x] w fun e w' => ∃ y, e = .returned y ∧ Below w.heap.size w w' ∧ MdF (fun k => w.heap.size ≤ k ∧ k < w'.heap.size) w' y m := by
 obtain ⟨vi, vh, vs, rfl, h1, h2, h3⟩ := h
 obtain ⟨n, s, i, hh, ev, z⟩ := m
 have HI : Hid (IsI w vi i) := h1
 have HH : Hid (IsH w vh hh) := h2
 have HE : Hid (IsEvs w vs ev) := h3
 have HS : Hid (SmallM ⟨n, s, i, hh, ev, z⟩) := hs
 clear h1 h2 h3 hs
 obtain ⟨W0, hW0⟩ : ∃ W0, ((w.alloc (.cells #[.int .i64 n, .int .i64 s, vi, vh, vs, .int .i64 z] 26)).alloc (.cells #[.int .i64 0, .int .i64 0, .slice none 0 0, .slice none 0 0, .slice none 0 0, .int .i64 0] 31)).alloc (.cells #[.int .i64 n, .int .i64 s, .slice none 0 0, .slice none 0 0, .slice none 0 0, .int .i64 0] 31) = W0 := ⟨_, rfl⟩
 have HB0 : Hid (Below w.heap.size w W0) := by rw [← hW0]; exact (((Below.refl _ w).alloc (Nat.le_refl _) _).alloc (by simp) _).alloc (by simp; omega) _
 have HP0 : Hid (Bk W0 w.heap.size 26 #[.int .i64 n, .int .i64 s, vi, vh, vs, .int .i64 z]) := by rw [← hW0]; exact ((Bk.new w _ _).alloc _).alloc _
 have HR0 : Hid (Bk W0 (w.heap.size + 1) 31 #[.int .i64 0, .int .i64 0, .slice none 0 0, .slice none 0 0, .slice none 0 0, .int .i64 0]) := by rw [← hW0]; exact (Bk.newAt (by simp) _ _).alloc _
 have HQ0 : Hid (Bk W0 (w.heap.size + 1 + 1) 31 #[.int .i64 n, .int .i64 s, .slice none 0 0, .slice none 0 0, .slice none 0 0, .int .i64 0]) := by rw [← hW0]; exact Bk.newAt (by simp) _ _
 have HW0 : Hid (((w.alloc (.cells #[.int .i64 n, .int .i64 s, vi, vh, vs, .int .i64 z] 26)).alloc (.cells #[.int .i64 0, .int .i64 0, .slice none 0 0, .slice none 0 0, .slice none 0 0, .int .i64 0] 31)).alloc (.cells #[.int .i64 n, .int .i64 s, .slice none 0 0, .slice none 0 0, .slice none 0 0, .int .i64 0] 31) = W0) := hW0
 clear hW0
 go_enter Tryz.func7, Tryz.ntmps7
 go_wp2_with fail
 rw [HW0.out]
 clear HW0
 refine (toI_any _ i _ HS.out.i (HI.out.below HB0.out)).mono ?_
 rintro e w1 ⟨rfl, hb, hr⟩
 have HI1 : Hid (RowI w1 W0.heap.size i) := hr
 have hz1 : W0.heap.size < w1.heap.size := hr.1
 have hq := HQ0.out.lt
 have HX1 : Hid (Below w.heap.size w w1) := HB0.out.trans (hb.mono (by omega))
 have HPa := HP0.out.below hb
 have HRa := HR0.out.below hb
 have HQa := HQ0.out.below hb
 clear hb hr HB0 HP0 HR0 HQ0
 obtain ⟨X1, hX1⟩ : ∃ X1, w1.setCell ⟨w.heap.size + 1 + 1, 2, none⟩ (sl W0.heap.size i.length) = X1 := ⟨_, rfl⟩
 have q2 := HQa.cell (i := 2) rfl
 have qf := HQa.free 2
 have HP1 : Hid (Bk X1 w.heap.size 26 #[.int .i64 n, .int .i64 s, vi, vh, vs, .int .i64 z]) := hX1 ▸ HPa.other 2 _ (by omega)
 have HR1 : Hid (Bk X1 (w.heap.size + 1) 31 #[.int .i64 0, .int .i64 0, .slice none 0 0, .slice none 0 0, .slice none 0 0, .int .i64 0]) := hX1 ▸ HRa.other 2 _ (by omega)
 have HQ1 : Hid (Bk X1 (w.heap.size + 1 + 1) 31 #[.int .i64 n, .int .i64 s, sl W0.heap.size i.length, .slice none 0 0, .slice none 0 0, .int .i64 0]) := hX1 ▸ HQa.put 2 _
 have p3 := HP1.out.cell (i := 3) rfl
 have HI1 : Hid (RowF (fun k => k = W0.heap.size) X1 (sl W0.heap.size i.length) i.length 1 (intCells i)) := hX1 ▸ (HI1.out.rowF (by have : i.length ≤ 1048576 := HS.out.i; unfold maxLen; omega)).turns (one_add w1 (w.heap.size + 1 + 1) 2 _) (fun k e => by omega)
 have HX1 : Hid (Below w.heap.size w X1) := hX1 ▸ HX1.out.setCell (p := ⟨w.heap.size + 1 + 1, 2, none⟩) (by show w.heap.size ≤ w.heap.size + 1 + 1; omega) _
 have hy1 : W0.heap.size < X1.heap.size := by rw [← hX1]; simpa using hz1
 clear HPa HRa HQa
 go_wp2_with fail
 clear p3 q2 qf hX1 hz1
 refine (toOpSS_any _ hh _ HS.out.h HS.out.r (HH.out.below HX1.out)).mono ?_
 rintro e w2 ⟨rfl, hb, hr⟩
 have HH2 : Hid (HsF (fun k => X1.heap.size ≤ k ∧ k < w2.heap.size) w2 (sl X1.heap.size hh.length) hh) := hr.rows (by have : hh.length ≤ 1048576 := HS.out.h; unfold maxLen; omega) (fun i => by have : (hAt hh i).length ≤ 1048576 := HS.out.r i; unfold maxLen; omega)
 have hz2 : X1.heap.size < w2.heap.size := hr.1
 have HX2 : Hid (Below w.heap.size w w2) := HX1.out.trans (hb.mono (by omega))
 have HI2 : Hid (RowF (fun k => k = W0.heap.size) w2 (sl W0.heap.size i.length) i.length 1 (intCells i)) := HI1.out.below hb
 have HP2 := HP1.out.below hb
 have HR2 := HR1.out.below hb
 have HQ2 := HQ1.out.below hb
 clear hb hr HX1 HI1 HP1 HR1 HQ1
 obtain ⟨X2, hX2⟩ : ∃ X2, w2.setCell ⟨w.heap.size + 1 + 1, 3, none⟩ (sl X1.heap.size hh.length) = X2 := ⟨_, rfl⟩
 have q3 := HQ2.cell (i := 3) rfl
 have qf := HQ2.free 3
 have HP3 : Hid (Bk X2 w.heap.size 26 #[.int .i64 n, .int .i64 s, vi, vh, vs, .int .i64 z]) := hX2 ▸ HP2.other 3 _ (by omega)
 have HR3 : Hid (Bk X2 (w.heap.size + 1) 31 #[.int .i64 0, .int .i64 0, .slice none 0 0, .slice none 0 0, .slice none 0 0, .int .i64 0]) := hX2 ▸ HR2.other 3 _ (by omega)
 have HQ3 : Hid (Bk X2 (w.heap.size + 1 + 1) 31 #[.int .i64 n, .int .i64 s, sl W0.heap.size i.length, sl X1.heap.size hh.length, .slice none 0 0, .int .i64 0]) := hX2 ▸ HQ2.put 3 _
 have p4 := HP3.out.cell (i := 4) rfl
 have ht2 := one_add w2 (w.heap.size + 1 + 1) 3 (sl X1.heap.size hh.length)
 rw [hX2] at ht2
 have HI3 : Hid (RowF (fun k => k = W0.heap.size) X2 (sl W0.heap.size i.length) i.length 1 (intCells i)) := HI2.out.turns ht2 (fun k e => by omega)
 obtain ⟨U, hU⟩ := HH2.out
 have HH3 : Hid (HsF (fun k => X1.heap.size ≤ k ∧ k < w2.heap.size) X2 (sl X1.heap.size hh.length) hh) := ⟨U, hU.turns ht2 (fun k e => by omega)⟩
 have HX3 : Hid (Below w.heap.size w X2) := hX2 ▸ HX2.out.setCell (p := ⟨w.heap.size + 1 + 1, 3, none⟩) (by show w.heap.size ≤ w.heap.size + 1 + 1; omega) _
 have hy2 : w2.heap.size ≤ X2.heap.size := ht2.size
 clear hU HP2 HR2 HQ2 ht2 HI2 HH2 HX2
 go_wp2_with fail
 clear p4 q3 qf hX2
 refine (toEventS_any _ ev _ HS.out.e (HE.out.below HX3.out)).mono ?_
 rintro e w3 ⟨rfl, hb, hr⟩
 have HE4 : Hid (RowF (fun k => k = X2.heap.size) w3 (sl X2.heap.size ev.length) ev.length 7 (cellsL ev)) := hr.rowF (by have : ev.length ≤ 1048576 := HS.out.e; unfold maxLen; omega)
 have hz3 : X2.heap.size < w3.heap.size := hr.1
 have HX4 : Hid (Below w.heap.size w w3) := HX3.out.trans (hb.mono (by omega))
 have HI4 : Hid (RowF (fun k => k = W0.heap.size) w3 (sl W0.heap.size i.length) i.length 1 (intCells i)) := HI3.out.below hb
 obtain ⟨U, hU⟩ := HH3.out
 have HH4 : Hid (HsF (fun k => X1.heap.size ≤ k ∧ k < w2.heap.size) w3 (sl X1.heap.size hh.length) hh) := ⟨U, hU.below hb⟩
 have HP4 := HP3.out.below hb
 have HR4 := HR3.out.below hb
 have HQ4 := HQ3.out.below hb
 clear hb hr HX3 HI3 HH3 HP3 HR3 HQ3 hU
 obtain ⟨X3, hX3⟩ : ∃ X3, w3.setCell ⟨w.heap.size + 1 + 1, 4, none⟩ (sl X2.heap.size ev.length) = X3 := ⟨_, rfl⟩
 obtain ⟨X4, hX4⟩ : ∃ X4, X3.setCell ⟨w.heap.size + 1 + 1, 5, none⟩ (.int .i64 z) = X4 := ⟨_, rfl⟩
 have q4 := HQ4.cell (i := 4) rfl
 have qf := HQ4.free 4
 have HP5 : Bk X3 w.heap.size 26 #[.int .i64 n, .int .i64 s, vi, vh, vs, .int .i64 z] := hX3 ▸ HP4.other 4 _ (by omega)
 have p5 := HP5.cell (i := 5) rfl
 have HQ5 : Bk X3 (w.heap.size + 1 + 1) 31 #[.int .i64 n, .int .i64 s, sl W0.heap.size i.length, sl X1.heap.size hh.length, sl X2.heap.size ev.length, .int .i64 0] := hX3 ▸ HQ4.put 4 _
 have q5 := HQ5.cell (i := 5) rfl
 have qf5 := HQ5.free 5
 have HQ6 : Bk X4 (w.heap.size + 1 + 1) 31 #[.int .i64 n, .int .i64 s, sl W0.heap.size i.length, sl X1.heap.size hh.length, sl X2.heap.size ev.length, .int .i64 z] := hX4 ▸ HQ5.put 5 _
 have HR5 : Bk X3 (w.heap.size + 1) 31 #[.int .i64 0, .int .i64 0, .slice none 0 0, .slice none 0 0, .slice none 0 0, .int .i64 0] := hX3 ▸ HR4.other 4 _ (by omega)
 have HR6 : Bk X4 (w.heap.size + 1) 31 #[.int .i64 0, .int .i64 0, .slice none 0 0, .slice none 0 0, .slice none 0 0, .int .i64 0] := hX4 ▸ HR5.other 5 _ (by omega)
 have o0 := HQ6.cell (i := 0) rfl
 have o1 := HQ6.cell (i := 1) rfl
 have o2 := HQ6.cell (i := 2) rfl
 have o3 := HQ6.cell (i := 3) rfl
 have o4 := HQ6.cell (i := 4) rfl
 have o5 := HQ6.cell (i := 5) rfl
 have r0 := HR6.cell (i := 0) rfl
 have r1 := HR6.cell (i := 1) rfl
 have r2 := HR6.cell (i := 2) rfl
 have r3 := HR6.cell (i := 3) rfl
 have r4 := HR6.cell (i := 4) rfl
 have r5 := HR6.cell (i := 5) rfl
 have rf := HR6.free
 have HR7 : Hid (Bk X4 (w.heap.size + 1) 31 #[.int .i64 0, .int .i64 0, .slice none 0 0, .slice none 0 0, .slice none 0 0, .int .i64 0]) := HR6
 have ht3 := (one_add w3 (w.heap.size + 1 + 1) 4 (sl X2.heap.size ev.length))
 rw [hX3] at ht3
 have ht4 := one_add X3 (w.heap.size + 1 + 1) 5 (.int .i64 z)
 rw [hX4] at ht4
 have HT : Hid (Turns (fun k => k = w.heap.size + 1 + 1) w3 X4) := ht3.trans ht4
 clear HP4 HQ4 HP5 HQ5 HQ6 HR4 HR5 HR6 ht3 ht4
 go_wp2
 clear o0 o1 o2 o3 o4 o5 r0 r1 r2 r3 r4 r5 rf
 obtain ⟨X5, hX5⟩ : ∃ X5, put6 X4 (w.heap.size + 1) (.int .i64 n) (.int .i64 s) (.slice (some ⟨W0.heap.size, 0, none⟩) i.length i.length) (.slice (some ⟨X1.heap.size, 0, none⟩) hh.length hh.length) (.slice (some ⟨X2.heap.size, 0, none⟩) ev.length ev.length) (.int .i64 z) = X5 := ⟨_, rfl⟩
 have hR := HR7.out.put6 (.int .i64 n) (.int .i64 s) (.slice (some ⟨W0.heap.size, 0, none⟩) i.length i.length) (.slice (some ⟨X1.heap.size, 0, none⟩) hh.length hh.length) (.slice (some ⟨X2.heap.size, 0, none⟩) ev.length ev.length) (.int .i64 z)
 have ht := put6_turns X4 (w.heap.size + 1) (.int .i64 n) (.int .i64 s) (.slice (some ⟨W0.heap.size, 0, none⟩) i.length i.length) (.slice (some ⟨X1.heap.size, 0, none⟩) hh.length hh.length) (.slice (some ⟨X2.heap.size, 0, none⟩) ev.length ev.length) (.int .i64 z)
 rw [hX5] at hR ht
 unfold put6 at hX5
 rw [hX5]
 have t0 := hR.cell (i := 0) rfl
 have t1 := hR.cell (i := 1) rfl
 have t2 := hR.cell (i := 2) rfl
 have t3 := hR.cell (i := 3) rfl
 have t4 := hR.cell (i := 4) rfl
 have t5 := hR.cell (i := 5) rfl
 have hT : Turns (fun k => k = w.heap.size + 1 + 1 ∨ k = w.heap.size + 1) w3 X5 := (HT.out.mono (fun k e => .inl e)).trans (ht.mono (fun k e => .inr e))
 have hsz := hT.size
 obtain ⟨U, hU⟩ := HH4.out
 refine bodyPost_ret (v := .agg #[.int .i64 n, .int .i64 s, sl W0.heap.size i.length, sl X1.heap.size hh.length, sl X2.heap.size ev.length, .int .i64 z]) (by simp [results, Tryz.results7, go_sem, t0, t1, t2, t3, t4, t5]) rfl
  ⟨_, rfl, HX4.out.trans (hT.to_below (fun k e => by omega) (by omega)), (fun k => k = W0.heap.size), (fun k => X1.heap.size ≤ k ∧ k < w2.heap.size), (fun k => k = X2.heap.size), _, _, _, rfl, ?_, ⟨U, ?_⟩, ?_, fun k e => ?_, fun k e => ?_, fun k e => ?_⟩
 ·exact HI4.out.turns hT (fun k e => by omega)
 ·exact hU.turns hT (fun k e => by omega)
 ·exact HE4.out.turns hT (fun k e => by omega)
 ·exact ⟨by omega, by omega, by omega⟩
 ·exact ⟨by omega, by omega⟩
 ·exact by omega
end Go.Proofs.YthfhibnnkpbeiaaGreat

