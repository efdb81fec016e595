/- TRow, Each, OkS, CmpS, Quiet, Says, OkI, EvOk -/
import Derived.Test.YtacgdmojhhdegaaExactTableReadG02
import Derived.Test.YtacgdmojhhdegaaExactTableReadG00
import Derived.RangeFuncNested
import Derived.RangeFuncBound
import Derived.RangeFuncCalls
import Derived.RangeFuncLeaves
import Derived.RangeFuncBox
import Derived.Shelf.Abstract
import Derived.Shelf.RegionOpen
import Derived.OwnWalkIn
import Derived.TacticsInMore
import Derived.LoopNIn
import Derived.LoopIn
import Derived.Deep.QuietTactic
import Derived.BigQuiet
/- Rows of numbers, events and emits: how much there is, held against each other, copied, marked, found again; each in one form. -/
namespace Go.Proofs.Ytacgdmojhhdegaa
open Go.RowKit
/- What is left of a size: -1, or all of n was taken off. -/
def SzR (n : Nat) (left r : Int) : Prop := r = -1 ∨ (0 ≤ r ∧ r + (n : Int) = left)
theorem szN_R (n : Nat) (left : Int) : SzR n left (szN n left) := by
  unfold szN
  split
  · exact .inl rfl
  · exact .inr ⟨by omega, by omega⟩
theorem ints_plain (l : List Int) : ∀ u ∈ intCells l, ∃ i, u = .int .i64 i := by
  intro u hu
  simp only [intCells, List.mem_map] at hu
  obtain ⟨i, _, rfl⟩ := hu
  exact ⟨i, rfl⟩
theorem evs_plain : ∀ (l : List Ev), ∀ u ∈ cellsL l, ∃ i, u = .int .i64 i
  | [], u, hu => by cases hu
  | e :: l, u, hu => by
    rcases List.mem_append.1 hu with h | h
    · simp [Ev.cs] at h
      rcases h with rfl | rfl | rfl | rfl | rfl | rfl | rfl <;> exact ⟨_, rfl⟩
    · exact evs_plain l u h
theorem ems_plain : ∀ (l : List Em), ∀ u ∈ cellsX l, ∃ i, u = .int .i64 i
  | [], u, hu => by cases hu
  | e :: l, u, hu => by
    rcases List.mem_append.1 hu with h | h
    · simp [Em.cs] at h
      rcases h with rfl | rfl | rfl <;> exact ⟨_, rfl⟩
    · exact ems_plain l u h
theorem IsD.len {w : World} {x : Value} {c n : Nat} {f : Nat → Dat} (h : IsD w x (.row c n f)) : ∃ a cap, x = .slice a n cap ∧ n ≤ maxLen := by
  obtain ⟨a, cap, rfl, h1, h2, _⟩ := h.parts
  exact ⟨a, cap, rfl, Nat.le_trans h1 h2⟩
set_option maxHeartbeats 400000 in
theorem szX_any (a : Option Addr) (n cap : Nat) (left : Int) (w : World) (hn : n ≤ maxLen) (h0 : 0 ≤ left) (h1 : left ≤ 1048576) :
    Calls Try.prog 5 #[.slice a n cap, .int .i64 left] w fun e w' => e = .returned (.int .i64 (szN n left)) ∧ w' = w := by
  unfold maxLen at hn
  by_cases hp : left - (n : Int) < 0
  · go_enter Try.func5, Try.ntmps5
    go_wp2
    go_ret
    exact ⟨ret_int (by unfold szN; rw [if_pos hp]), rfl⟩
  · go_enter Try.func5, Try.ntmps5
    go_wp2
    go_ret
    exact ⟨ret_int (by unfold szN; rw [if_neg (by omega)]), rfl⟩
set_option maxHeartbeats 400000 in
theorem toEmit_any (t l v : Int) (w : World) :
    Calls Try.prog 20 #[.agg #[.int .i64 t, .int .i64 l, .int .i64 v]] w fun e w' => e = .returned (.agg #[.int .i64 t, .int .i64 l, .int .i64 v]) ∧ Below w.heap.size w w' := by
  go_enter Try.func20, Try.ntmps20
  go_wp2
  refine bodyPost_ret (v := .agg #[.int .i64 t, .int .i64 l, .int .i64 v]) (by simp [results, Try.results20, go_sem]) rfl ⟨rfl, (((Below.refl _ w).alloc (Nat.le_refl _) _).alloc (by simp) _).alloc (by simp; omega) _⟩
theorem infoEm : (Try.prog.info? 40).map (fun i => (i.zero, i.size, i.bytes)) = some (some (.agg #[.int .i64 0, .int .i64 0, .int .i64 0]), 3, 24) := by kernel_rfl
/- A row that was just made. -/
theorem OwnD.made {B : Nat} {T : TypeId} {w1 : World} {zs : List Value} {n c : Nat} (h : w1.ownsRow B T c (.slice (some ⟨B, 0, none⟩) n n) n zs) (hz : zs.length = n * c) : OwnD w1 (fun k => B ≤ k ∧ k < w1.heap.size) (.slice (some ⟨B, 0, none⟩) n n) (flat c n zs) :=
  (RowF.of_owns hz h).own
/- As far as m cells a row holds f's data, then it is as it was made. -/
def toC (f : Nat → Dat) (zs : List Value) (m : Nat) : Nat → Dat := fun j => if j < m then f j else .val (zs.getD j (.int .i64 0))
theorem OwnD.made0 {B : Nat} {T : TypeId} {w1 : World} {zs : List Value} {n c : Nat} (f : Nat → Dat) (h : w1.ownsRow B T c (.slice (some ⟨B, 0, none⟩) n n) n zs) : ∃ zs, OwnD w1 (fun k => B ≤ k ∧ k < w1.heap.size) (.slice (some ⟨B, 0, none⟩) n n) (.row c n (toC f zs 0)) := by
  refine ⟨zs, (OwnD.made h h.1).congr (fun j _ => ?_)⟩
  simp [toC]
theorem OwnD.toAll {F : Nat → Prop} {w : World} {x : Value} {c n m : Nat} {f : Nat → Dat} {zs : List Value} (h : OwnD w F x (.row c n (toC f zs m))) (hm : m = n * c) : OwnD w F x (.row c n f) :=
  h.congr (fun j hj => by simp [toC, hm, hj])
theorem upd_toC (f : Nat → Dat) (zs : List Value) (m : Nat) : upd (toC f zs m) m (f m) = toC f zs (m + 1) := by
  funext j
  simp only [upd, toC]
  by_cases e : j = m
  · subst e; rw [if_pos rfl, if_pos (by omega)]
  · rw [if_neg e]
    by_cases e2 : j < m
    · rw [if_pos e2, if_pos (by omega)]
    · rw [if_neg e2, if_neg (by omega)]
theorem OwnD.fill_val {F : Nat → Prop} {w : World} {g n cap c m : Nat} {f : Nat → Dat} {zs : List Value} (h : OwnD w F (.slice (some ⟨g, 0, none⟩) n cap) (.row c n (toC f zs m))) (hm : m < n * c) {u : Value} (hu : f m = .val u) :
    OwnD (w.setCell ⟨g, m, none⟩ u) F (.slice (some ⟨g, 0, none⟩) n cap) (.row c n (toC f zs (m + 1))) := by
  have := h.put_val hm u
  rwa [← hu, upd_toC] at this
theorem OwnD.fill {F K : Nat → Prop} {w : World} {g n cap c m : Nat} {f : Nat → Dat} {zs : List Value} (h : OwnD w F (.slice (some ⟨g, 0, none⟩) n cap) (.row c n (toC f zs m))) (hm : m < n * c) {u : Value} (hu : OwnD w K u (f m)) (hK : ∀ k, K k → ¬ F k) :
    OwnD (w.setCell ⟨g, m, none⟩ u) (fun k => F k ∨ K k) (.slice (some ⟨g, 0, none⟩) n cap) (.row c n (toC f zs (m + 1))) := by
  have := h.put hm hu hK
  rwa [upd_toC] at this
theorem emsD_get (l : List Em) (j : Nat) : (fun j => Dat.val ((cellsX l).getD j (.int .i64 0))) j = .val ((cellsX l).getD j (.int .i64 0)) := rfl
theorem ems_at {l : List Em} {k : Nat} (h : k < l.length) : (cellsX l).getD (k * 3) (.int .i64 0) = .int .i64 (xAt l k).t ∧ (cellsX l).getD (k * 3 + 1) (.int .i64 0) = .int .i64 (xAt l k).l ∧ (cellsX l).getD (k * 3 + 2) (.int .i64 0) = .int .i64 (xAt l k).v :=
  ⟨getD_of (cellsX_get l k 0 h (by omega)), getD_of (cellsX_get l k 1 h (by omega)), getD_of (cellsX_get l k 2 h (by omega))⟩
theorem made_length {w : World} {B : Nat} {T : TypeId} {c n : Nat} {v : Value} {zs : List Value} (h : w.ownsRow B T c v n zs) : zs.length = n * c := h.1
set_option maxHeartbeats 2000000 in
theorem toX_any (x : Value) (l : List Em) (w : World) (hl : l.length ≤ 1048576) (h : IsX w x l) :
    Calls Try.prog 7 #[x] w fun e w' => e = .returned (sl w.heap.size l.length) ∧ Below w.heap.size w w' ∧ OwnD w' (fun k => w.heap.size ≤ k ∧ k < w'.heap.size) (sl w.heap.size l.length) (emsD l) := by
  obtain ⟨a, cap, rfl, h1, h2, h⟩ := h
  have hp : (0 : Int) ≤ (l.length : Int) := by omega
  obtain ⟨i0, hi, hz0, hz1, hz2⟩ := info_parts infoEm
  go_enter Try.func7, Try.ntmps7
  go_wp2_with (at_make; refine wpList_make_full _ rfl _ _ 27 rfl w.heap.size 40 i0 _ 3 Try.underlying27 hi hz0 hz1 .i64 .i64 l.length l.length l.length rfl rfl rfl rfl (by rw [hz2]; omega) (by unfold maxLen; omega) (Nat.le_refl _) ?_; intro w1 hown hgrow)
  have hB1 : Hid (Below w.heap.size w w1) := (Below.refl _ _).grown hgrow (Nat.le_refl _) (fun k e => by cases e)
  obtain ⟨zs, hR0⟩ := OwnD.made0 (fun j => .val ((cellsX l).getD j (.int .i64 0))) hown
  have hR1 : Hid (OwnD w1 (fun k => w.heap.size ≤ k ∧ k < w1.heap.size) (sl w.heap.size l.length) (.row 3 l.length (toC (fun j => .val ((cellsX l).getD j (.int .i64 0))) zs (0 * 3)))) := hR0
  clear hown hgrow hi hz0 hz1 hz2 hR0
  go_loopw [4] (fun i wr => ∃ k : Nat, k ≤ l.length ∧ i = .int .i64 k ∧ Below w.heap.size w wr ∧ OwnD wr (fun k => w.heap.size ≤ k ∧ k < wr.heap.size) (sl w.heap.size l.length) (.row 3 l.length (toC (fun j => .val ((cellsX l).getD j (.int .i64 0))) zs (k * 3)))) (fun i _ => l.length - (intOf i).toNat)
  case atStart => exact ⟨0, Nat.zero_le _, rfl, hB1.out, hR1.out⟩
  case round =>
    obtain ⟨k, hk, rfl, hB, hR⟩ := hrel
    have HB : Hid (Below w.heap.size w wr) := hB
    have HR : Hid (OwnD wr (fun k => w.heap.size ≤ k ∧ k < wr.heap.size) (sl w.heap.size l.length) (.row 3 l.length (toC (fun j => .val ((cellsX l).getD j (.int .i64 0))) zs (k * 3)))) := hR
    clear hR
    by_cases hlt : k < l.length
    · obtain ⟨b, off, rfl, hb, hc⟩ := h.resolve_left (by intro e; subst e; simp at hlt)
      obtain ⟨f0, f1, f2⟩ := (hc k hlt).below hB hb
      have hg : w.heap.size < wr.heap.size := (HR.out.lt (by omega)).1
      clear hB hB1 hR1 h hc
      go_wp2_with (go_at_call 20; refine (toEmit_any _ _ _ _).mono ?_; rintro e w2 ⟨rfl, hb2⟩; have HB2 : Hid (Below wr.heap.size wr w2) := hb2; have HR2 : Hid (OwnD w2 (fun k => w.heap.size ≤ k ∧ k < wr.heap.size) (sl w.heap.size l.length) (.row 3 l.length (toC (fun j => .val ((cellsX l).getD j (.int .i64 0))) zs (k * 3)))) := HR.out.under hb2; obtain ⟨c0, _, g0, z0, _⟩ := HR2.out.step (j := k * 3) (by omega); obtain ⟨c1, _, g1, z1, _⟩ := HR2.out.step (j := k * 3 + 1) (by omega); obtain ⟨c2, _, g2, z2, _⟩ := HR2.out.step (j := k * 3 + 2) (by omega); clear hb2)
      go_roundw
      case rel =>
        obtain ⟨e0, e1, e2⟩ := ems_at hlt
        refine ⟨k + 1, by omega, by go_num, (((HB.out.trans (HB2.out.mono (by omega))).setCell (p := ⟨w.heap.size, _, none⟩) (Nat.le_refl _) _).setCell (p := ⟨w.heap.size, _, none⟩) (Nat.le_refl _) _).setCell (p := ⟨w.heap.size, _, none⟩) (Nat.le_refl _) _, ?_⟩
        rw [show (k + 1) * 3 = k * 3 + 1 + 1 + 1 from by omega]
        exact (((HR2.out.fill_val (m := k * 3) (by omega) (by rw [e0])).fill_val (m := k * 3 + 1) (by omega) (by rw [e1])).fill_val (m := k * 3 + 2) (by omega) (by rw [e2])).mono (fun b hb => ⟨hb.1, by have := HB2.out.size; simp; omega⟩)
      case measure => simp [intOf]; omega
    · clear hB hB1 hR1 h
      go_wp2
      go_ret
      obtain rfl : k = l.length := by omega
      exact ⟨rfl, HB.out, HR.out.toAll rfl⟩

theorem ints_wt (l : List Int) : (intsD l).wt = l.length := flat_wt _ _ _
theorem ints_cnt (l : List Int) : (intsD l).cnt = l.length * 1 := flat_cnt _ _ _
theorem ints_thin (l : List Int) : (intsD l).thin := flat_thin (by omega)
theorem evs_wt (l : List Ev) : (evsD l).wt = l.length := flat_wt _ _ _
theorem evs_cnt (l : List Ev) : (evsD l).cnt = l.length * 7 := flat_cnt _ _ _
theorem evs_thin (l : List Ev) : (evsD l).thin := flat_thin (by omega)
theorem ems_wt (l : List Em) : (emsD l).wt = l.length := flat_wt _ _ _
theorem ems_cnt (l : List Em) : (emsD l).cnt = l.length * 3 := flat_cnt _ _ _
theorem ems_thin (l : List Em) : (emsD l).thin := flat_thin (by omega)
theorem sz_ems (x : Value) (l : List Em) (left : Int) (w : World) (h0 : 0 ≤ left) (h1 : left ≤ 1048576) (h : IsD w x (emsD l)) :
    Calls Try.prog 5 #[x, .int .i64 left] w fun e w' => (∃ r, e = .returned (.int .i64 r) ∧ SzR (emsD l).wt left r) ∧ Below w.heap.size w w' := by
  obtain ⟨a, cap, rfl, hn⟩ := IsD.len (c := 3) (n := l.length) h
  refine (szX_any a l.length cap left w hn h0 h1).mono ?_
  rintro e w' ⟨rfl, rfl⟩
  exact ⟨⟨_, rfl, by rw [ems_wt]; exact szN_R _ _⟩, Below.refl _ _⟩
theorem eq_ems (x y : Value) (l : List Em) (w : World) (hl : l.length ≤ 1048576) (hx : IsD w x (emsD l)) (hy : IsD w y (emsD l)) :
    Calls Try.prog 10 #[x, y] w fun e w' => e = .returned (.bool true) ∧ Below w.heap.size w w' :=
  eqX_same x y l w hl hx.isX hy.isX
theorem to_ems (x : Value) (l : List Em) (w : World) (hl : l.length ≤ 1048576) (h : IsD w x (emsD l)) :
    Calls Try.prog 7 #[x] w fun e w' => ∃ y, e = .returned y ∧ Below w.heap.size w w' ∧ OwnD w' (fun k => w.heap.size ≤ k ∧ k < w'.heap.size) y (emsD l) := by
  refine (toX_any x l w hl h.isX).mono ?_
  rintro e w' ⟨rfl, hb, hr⟩
  exact ⟨_, rfl, hb, hr⟩
theorem mark_ems {F : Nat → Prop} {x : Value} {l : List Em} {w : World} (z : Int) (hn : l.length ≤ 1048577) (hz0 : 0 ≤ z) (hz1 : z ≤ 1073741824) (h : OwnD w F x (emsD l)) :
    Calls Try.prog 11 #[x, .int .i64 z] w fun e w' => e = .returned (.int .i64 (z + ((emsD l).cnt : Int))) ∧ OwnD w' F x ((emsD l).mark z) ∧ Turns F w w' := by
  refine (markXF z hn hz0 hz1 (OwnD.rowF (c := 3) h (cellsX_length l))).mono ?_
  rintro e w' ⟨rfl, hr, ht⟩
  refine ⟨ret_int ?_, flat_marked hr.own (ems_plain l), ht⟩
  rw [ems_cnt]
  omega
theorem held_ems {F : Nat → Prop} {x : Value} {l : List Em} {w : World} (z : Int) (hn : l.length ≤ 1048577) (hz0 : 0 ≤ z) (hz1 : z ≤ 1073741824) (h : OwnD w F x ((emsD l).mark z)) :
    Calls Try.prog 17 #[x, .int .i64 z] w fun e w' => e = .returned (.int .i64 (z + ((emsD l).cnt : Int))) ∧ Below w.heap.size w w' := by
  refine (heldXF (F := F) z hn hz0 hz1 (OwnD.rowF (c := 3) (flat_unmarked h (ems_plain l)) (mkCells_length _ _))).mono ?_
  rintro e w' ⟨rfl, rfl⟩
  refine ⟨ret_int ?_, Below.refl _ _⟩
  rw [ems_cnt]
  omega

end Go.Proofs.Ytacgdmojhhdegaa

/- The program's iterator over the events of a list: what it hands to its loop. -/
namespace Go.Proofs.Ytacgdmojhhdegaa
open Go.RowKit Go.Shelf
attribute [local go_sem] Oper.semAt_some

theorem fin_take_succ (n k : Nat) (h : k < n) : (List.finRange n).take (k + 1) = (List.finRange n).take k ++ [⟨k, h⟩] := by
  rw [List.take_succ_eq_append_getElem (by simpa using h)]; simp
theorem fin_take_length (n k : Nat) (h : k ≤ n) : ((List.finRange n).take k).length = k := by simp [h]

/- What the loop over the events is handed in round x. -/
abbrev evArgs (l : List Ev) (x : Fin l.length) : Array Value := #[.int .i64 ((x.val : Nat) : Int), (evAt l x.val).val]

/- What a round that goes on keeps: the two blocks that the iterator reads. -/
def Same2 (c b : Nat) (A B : World) : Prop := B.heap[c]? = A.heap[c]? ∧ B.heap[b]? = A.heap[b]?
theorem Same2.refl (c b : Nat) (A : World) : Same2 c b A A := ⟨rfl, rfl⟩
theorem Same2.trans {c b : Nat} {A B C : World} (h : Same2 c b A B) (k : Same2 c b B C) : Same2 c b A C := ⟨k.1.trans h.1, k.2.trans h.2⟩
theorem Same2.below {c b n : Nat} {A B : World} (h : Below n A B) (hc : c < n) (hb : b < n) : Same2 c b A B := ⟨h.block c hc, h.block b hb⟩
theorem Same2.putObj {c b : Nat} {w : World} (hc : c < w.heap.size) (hb : b < w.heap.size) (W : World) (l : Nat) (o o' : Obj) (hl : w.heap.size ≤ l) (_ : W.heap[l]? = some o) (_ : o.isCells = false) (_ : o.isWalk = false) : Same2 c b W (W.putObj l o') :=
  ⟨World.putObj_heap_other (by omega), World.putObj_heap_other (by omega)⟩
theorem Same2.cell1 {c b : Nat} {A B : World} (h : Same2 c b A B) (o : Nat) : B.cell? ⟨c, o, none⟩ = A.cell? ⟨c, o, none⟩ := World.cell?_of_block (w := A) h.1
theorem Same2.cell2 {c b : Nat} {A B : World} (h : Same2 c b A B) (o : Nat) : B.cell? ⟨b, o, none⟩ = A.cell? ⟨b, o, none⟩ := World.cell?_of_block (w := A) h.2
theorem Same2.ev {c b o : Nat} {A B : World} {e : Ev} (h : Same2 c b A B) (k : Ev.In A b o e) : Ev.In B b o e :=
  ⟨(h.cell2 _).trans k.f0, (h.cell2 _).trans k.f1, (h.cell2 _).trans k.f2, (h.cell2 _).trans k.f3, (h.cell2 _).trans k.f4, (h.cell2 _).trans k.f5, (h.cell2 _).trans k.f6⟩

/- The iterator's contract: all events in their order, or the first of them. c is the block of the slice value; b the block of the events. -/
end Go.Proofs.Ytacgdmojhhdegaa

/- The specification's EventOk. -/
namespace Go.Proofs.Ytacgdmojhhdegaa
open Go.RowKit
end Go.Proofs.Ytacgdmojhhdegaa

/- The specification's l1cmp. -/
namespace Go.Proofs.Ytacgdmojhhdegaa
open Go.RowKit
end Go.Proofs.Ytacgdmojhhdegaa

/- A region that draws its order, whose operations only read and whose callees lay blocks of their own, is walked once, in the order of the text. -/
namespace Go.Proofs.Ytacgdmojhhdegaa
open Go.RowKit
/- A world in which all that W had lies as it lay. -/
structure Beyond (W : World) where
  w : World
  h : Below W.heap.size W w
theorem Beyond.cell {W : World} (p : Beyond W) {b o : Nat} {v : Value} (hb : b < W.heap.size) (h : W.cell? ⟨b, o, none⟩ = some v) : p.w.cell? ⟨b, o, none⟩ = some v := (p.h.cell (p := ⟨b, o, none⟩) hb).trans h
theorem Beyond.of {P : Program} {f : FuncId} {args : Array Value} {W : World} {p : Beyond W} {v : Value} (h : Calls P f args p.w fun e w' => e = .returned v ∧ Below p.w.heap.size p.w w') :
    Calls P f args p.w fun e w'' => e = .returned v ∧ ∃ p' : Beyond W, w'' = p'.w :=
  h.mono fun _ w'' ⟨he, hb⟩ => ⟨he, ⟨w'', p.h.trans (hb.mono p.h.size)⟩, rfl⟩
theorem wp_region_beyond {P : Program} {id : Nat} {Q : Exit → Act → World → Prop} {a : Act} {W : World} {l : List Oper} (hm : P.follows .mixedOrders = true) (hB : Region.lexB .any l.toArray = true)
    (h : wpQuiet P l.toArray (fun w' => ∃ p : Beyond W, w' = p.w) (fun a' => ∀ w', (∃ p : Beyond W, w' = p.w) → Q .normal a' w') l a) : (Code.region id l.toArray true).wp P Q a W :=
  wp_region_quiet (C := fun w' => ∃ p : Beyond W, w' = p.w) hm hB ⟨⟨_, (Below.refl _ W).drew⟩, rfl⟩ (by simpa using h)
/- The seven cells of an event, in every world beyond. -/
theorem EvAt.beyond {W : World} {b o : Nat} {t s q d k v g : Int} (h : EvAt W b o t s q d k v g) (hb : b < W.heap.size) :
    (∀ p : Beyond W, p.w.cell? ⟨b, o, none⟩ = some (.int .i64 t)) ∧ (∀ p : Beyond W, p.w.cell? ⟨b, o + 1, none⟩ = some (.int .i64 s)) ∧ (∀ p : Beyond W, p.w.cell? ⟨b, o + 2, none⟩ = some (.int .i64 q)) ∧ (∀ p : Beyond W, p.w.cell? ⟨b, o + 3, none⟩ = some (.int .i64 d)) ∧
    (∀ p : Beyond W, p.w.cell? ⟨b, o + 4, none⟩ = some (.int .i64 k)) ∧ (∀ p : Beyond W, p.w.cell? ⟨b, o + 5, none⟩ = some (.int .i64 v)) ∧ (∀ p : Beyond W, p.w.cell? ⟨b, o + 6, none⟩ = some (.int .i64 g)) :=
  ⟨fun p => p.cell hb h.f0, fun p => p.cell hb h.f1, fun p => p.cell hb h.f2, fun p => p.cell hb h.f3, fun p => p.cell hb h.f4, fun p => p.cell hb h.f5, fun p => p.cell hb h.f6⟩
end Go.Proofs.Ytacgdmojhhdegaa

/- The specification's EventOk and l1cmp of events; what a bool says. -/
namespace Go.Proofs.Ytacgdmojhhdegaa
open Go.RowKit
/- A bool is returned that says whether p holds. -/
def Says (e : Ending) (p : Prop) : Prop := ∃ b : Bool, e = .returned (.bool b) ∧ (b = true ↔ p)
theorem Says.yes {p : Prop} (h : p) : Says (.returned (.bool true)) p := ⟨true, rfl, fun _ => h, fun _ => rfl⟩
theorem Says.no {p : Prop} (h : ¬ p) : Says (.returned (.bool false)) p := ⟨false, rfl, fun e => (by cases e), fun e => (h e).elim⟩
theorem Says.dec {p q : Prop} [Decidable q] (h : q ↔ p) : Says (.returned (.bool (decide q))) p := ⟨_, rfl, by simpa using h⟩

end Go.Proofs.Ytacgdmojhhdegaa

/- The program's EventOk. -/
namespace Go.Proofs.Ytacgdmojhhdegaa
open Go.RowKit
end Go.Proofs.Ytacgdmojhhdegaa

/- The program's eventsOk. -/
namespace Go.Proofs.Ytacgdmojhhdegaa
open Go.RowKit Go.Shelf
attribute [local go_sem] Oper.semAt_some

theorem keepsOthers_of_below {W W' : World} (h : Below W.heap.size W W') : KeepsOthers W W' := ⟨h.size, fun k _ hk _ => (h.block k (Array.getElem?_eq_some_iff.1 hk).1).trans hk⟩
theorem EvAt.kept {W W' : World} {row : Option Nat} {b o : Nat} {t s q d k v g : Int} (h : EvAt W b o t s q d k v g) (hg : W.grownBy W' row) (hr : ∀ r, row = some r → ∃ x : Obj, W.heap[r]? = some x ∧ x.isCells = false) : EvAt W' b o t s q d k v g :=
  ⟨cell_kept h.f0 hg hr, cell_kept h.f1 hg hr, cell_kept h.f2 hg hr, cell_kept h.f3 hg hr, cell_kept h.f4 hg hr, cell_kept h.f5 hg hr, cell_kept h.f6 hg hr⟩

end Go.Proofs.Ytacgdmojhhdegaa

