/- TRow, TPs, TPt, TPsA, TPsB -/
import Derived.Test.YtnlhcdchmgfipaaGreatExactKernelOkG04
import Derived.Deep.RegionHeld3
/- Rows of numbers, events and emits: how much there is, held against each other, copied, marked, found again; each in one form. -/
namespace Go.Proofs.YtnlhcdchmgfipaaGreat
open Go.RowKit
/- What is left of a size: -1, or all of n was taken off. -/
def SzR (n : Nat) (left r : Int) : Prop := r = -1 ∨ (0 ≤ r ∧ r + (n : Int) = left)
theorem szN_R (n : Nat) (left : Int) : SzR n left (szN n left) := by
  unfold szN
  split
  · exact .inl rfl
  · exact .inr ⟨by omega, by omega⟩
theorem ints_plain (l : List Int) : ∀ u ∈ intCells l, ∃ i, u = .int .i64 i := by
  intro u hu
  simp only [intCells, List.mem_map] at hu
  obtain ⟨i, _, rfl⟩ := hu
  exact ⟨i, rfl⟩
theorem evs_plain : ∀ (l : List Ev), ∀ u ∈ cellsL l, ∃ i, u = .int .i64 i
  | [], u, hu => by cases hu
  | e :: l, u, hu => by
    rcases List.mem_append.1 hu with h | h
    · simp [Ev.cs] at h
      rcases h with rfl | rfl | rfl | rfl | rfl | rfl | rfl <;> exact ⟨_, rfl⟩
    · exact evs_plain l u h
theorem ems_plain : ∀ (l : List Em), ∀ u ∈ cellsX l, ∃ i, u = .int .i64 i
  | [], u, hu => by cases hu
  | e :: l, u, hu => by
    rcases List.mem_append.1 hu with h | h
    · simp [Em.cs] at h
      rcases h with rfl | rfl | rfl <;> exact ⟨_, rfl⟩
    · exact ems_plain l u h
theorem IsD.len {w : World} {x : Value} {c n : Nat} {f : Nat → Dat} (h : IsD w x (.row c n f)) : ∃ a cap, x = .slice a n cap ∧ n ≤ maxLen := by
  obtain ⟨a, cap, rfl, h1, h2, _⟩ := h.parts
  exact ⟨a, cap, rfl, Nat.le_trans h1 h2⟩
set_option maxHeartbeats 400000 in
theorem szX_any (a : Option Addr) (n cap : Nat) (left : Int) (w : World) (hn : n ≤ maxLen) (h0 : 0 ≤ left) (h1 : left ≤ 1048576) :
    Calls Tryz.prog 51 #[.slice a n cap, .int .i64 left] w fun e w' => e = .returned (.int .i64 (szN n left)) ∧ w' = w := by
  unfold maxLen at hn
  by_cases hp : left - (n : Int) < 0
  · go_enter Tryz.func51, Tryz.ntmps51
    go_wp2
    go_ret
    exact ⟨ret_int (by unfold szN; rw [if_pos hp]), rfl⟩
  · go_enter Tryz.func51, Tryz.ntmps51
    go_wp2
    go_ret
    exact ⟨ret_int (by unfold szN; rw [if_neg (by omega)]), rfl⟩
set_option maxHeartbeats 400000 in
theorem toEmit_any (t l v : Int) (w : World) :
    Calls Tryz.prog 119 #[.agg #[.int .i64 t, .int .i64 l, .int .i64 v]] w fun e w' => e = .returned (.agg #[.int .i64 t, .int .i64 l, .int .i64 v]) ∧ Below w.heap.size w w' := by
  go_enter Tryz.func119, Tryz.ntmps119
  go_wp2
  refine bodyPost_ret (v := .agg #[.int .i64 t, .int .i64 l, .int .i64 v]) (by simp [results, Tryz.results119, go_sem]) rfl ⟨rfl, (((Below.refl _ w).alloc (Nat.le_refl _) _).alloc (by simp) _).alloc (by simp; omega) _⟩
theorem infoEm : (Tryz.prog.info? 145).map (fun i => (i.zero, i.size, i.bytes)) = some (some (.agg #[.int .i64 0, .int .i64 0, .int .i64 0]), 3, 24) := by kernel_rfl
/- A row that was just made. -/
theorem OwnD.made {B : Nat} {T : TypeId} {w1 : World} {zs : List Value} {n c : Nat} (h : w1.ownsRow B T c (.slice (some ⟨B, 0, none⟩) n n) n zs) (hz : zs.length = n * c) : OwnD w1 (fun k => B ≤ k ∧ k < w1.heap.size) (.slice (some ⟨B, 0, none⟩) n n) (flat c n zs) :=
  (RowF.of_owns hz h).own
/- As far as m cells a row holds f's data, then it is as it was made. -/
def toC (f : Nat → Dat) (zs : List Value) (m : Nat) : Nat → Dat := fun j => if j < m then f j else .val (zs.getD j (.int .i64 0))
theorem OwnD.made0 {B : Nat} {T : TypeId} {w1 : World} {zs : List Value} {n c : Nat} (f : Nat → Dat) (h : w1.ownsRow B T c (.slice (some ⟨B, 0, none⟩) n n) n zs) : ∃ zs, OwnD w1 (fun k => B ≤ k ∧ k < w1.heap.size) (.slice (some ⟨B, 0, none⟩) n n) (.row c n (toC f zs 0)) := by
  refine ⟨zs, (OwnD.made h h.1).congr (fun j _ => ?_)⟩
  simp [toC]
theorem OwnD.toAll {F : Nat → Prop} {w : World} {x : Value} {c n m : Nat} {f : Nat → Dat} {zs : List Value} (h : OwnD w F x (.row c n (toC f zs m))) (hm : m = n * c) : OwnD w F x (.row c n f) :=
  h.congr (fun j hj => by simp [toC, hm, hj])
theorem upd_toC (f : Nat → Dat) (zs : List Value) (m : Nat) : upd (toC f zs m) m (f m) = toC f zs (m + 1) := by
  funext j
  simp only [upd, toC]
  by_cases e : j = m
  · subst e; rw [if_pos rfl, if_pos (by omega)]
  · rw [if_neg e]
    by_cases e2 : j < m
    · rw [if_pos e2, if_pos (by omega)]
    · rw [if_neg e2, if_neg (by omega)]
theorem OwnD.fill_val {F : Nat → Prop} {w : World} {g n cap c m : Nat} {f : Nat → Dat} {zs : List Value} (h : OwnD w F (.slice (some ⟨g, 0, none⟩) n cap) (.row c n (toC f zs m))) (hm : m < n * c) {u : Value} (hu : f m = .val u) :
    OwnD (w.setCell ⟨g, m, none⟩ u) F (.slice (some ⟨g, 0, none⟩) n cap) (.row c n (toC f zs (m + 1))) := by
  have := h.put_val hm u
  rwa [← hu, upd_toC] at this
theorem OwnD.fill {F K : Nat → Prop} {w : World} {g n cap c m : Nat} {f : Nat → Dat} {zs : List Value} (h : OwnD w F (.slice (some ⟨g, 0, none⟩) n cap) (.row c n (toC f zs m))) (hm : m < n * c) {u : Value} (hu : OwnD w K u (f m)) (hK : ∀ k, K k → ¬ F k) :
    OwnD (w.setCell ⟨g, m, none⟩ u) (fun k => F k ∨ K k) (.slice (some ⟨g, 0, none⟩) n cap) (.row c n (toC f zs (m + 1))) := by
  have := h.put hm hu hK
  rwa [upd_toC] at this
theorem emsD_get (l : List Em) (j : Nat) : (fun j => Dat.val ((cellsX l).getD j (.int .i64 0))) j = .val ((cellsX l).getD j (.int .i64 0)) := rfl
theorem ems_at {l : List Em} {k : Nat} (h : k < l.length) : (cellsX l).getD (k * 3) (.int .i64 0) = .int .i64 (xAt l k).t ∧ (cellsX l).getD (k * 3 + 1) (.int .i64 0) = .int .i64 (xAt l k).l ∧ (cellsX l).getD (k * 3 + 2) (.int .i64 0) = .int .i64 (xAt l k).v :=
  ⟨getD_of (cellsX_get l k 0 h (by omega)), getD_of (cellsX_get l k 1 h (by omega)), getD_of (cellsX_get l k 2 h (by omega))⟩
theorem made_length {w : World} {B : Nat} {T : TypeId} {c n : Nat} {v : Value} {zs : List Value} (h : w.ownsRow B T c v n zs) : zs.length = n * c := h.1
set_option maxHeartbeats 2000000 in
theorem toX_any (x : Value) (l : List Em) (w : World) (hl : l.length ≤ 1048576) (h : IsX w x l) :
    Calls Tryz.prog 62 #[x] w fun e w' => e = .returned (sl w.heap.size l.length) ∧ Below w.heap.size w w' ∧ OwnD w' (fun k => w.heap.size ≤ k ∧ k < w'.heap.size) (sl w.heap.size l.length) (emsD l) := by
  obtain ⟨a, cap, rfl, h1, h2, h⟩ := h
  have hp : (0 : Int) ≤ (l.length : Int) := by omega
  obtain ⟨i0, hi, hz0, hz1, hz2⟩ := info_parts infoEm
  go_enter Tryz.func62, Tryz.ntmps62
  go_wp2_with (at_make; refine wpList_make_full _ rfl _ _ 40 rfl w.heap.size 145 i0 _ 3 Tryz.underlying40 hi hz0 hz1 .i64 .i64 l.length l.length l.length rfl rfl rfl rfl (by rw [hz2]; omega) (by unfold maxLen; omega) (Nat.le_refl _) ?_; intro w1 hown hgrow)
  have hB1 : Hid (Below w.heap.size w w1) := (Below.refl _ _).grown hgrow (Nat.le_refl _) (fun k e => by cases e)
  obtain ⟨zs, hR0⟩ := OwnD.made0 (fun j => .val ((cellsX l).getD j (.int .i64 0))) hown
  have hR1 : Hid (OwnD w1 (fun k => w.heap.size ≤ k ∧ k < w1.heap.size) (sl w.heap.size l.length) (.row 3 l.length (toC (fun j => .val ((cellsX l).getD j (.int .i64 0))) zs (0 * 3)))) := hR0
  clear hown hgrow hi hz0 hz1 hz2 hR0
  go_loopw [4] (fun i wr => ∃ k : Nat, k ≤ l.length ∧ i = .int .i64 k ∧ Below w.heap.size w wr ∧ OwnD wr (fun k => w.heap.size ≤ k ∧ k < wr.heap.size) (sl w.heap.size l.length) (.row 3 l.length (toC (fun j => .val ((cellsX l).getD j (.int .i64 0))) zs (k * 3)))) (fun i _ => l.length - (intOf i).toNat)
  case atStart => exact ⟨0, Nat.zero_le _, rfl, hB1.out, hR1.out⟩
  case round =>
    obtain ⟨k, hk, rfl, hB, hR⟩ := hrel
    have HB : Hid (Below w.heap.size w wr) := hB
    have HR : Hid (OwnD wr (fun k => w.heap.size ≤ k ∧ k < wr.heap.size) (sl w.heap.size l.length) (.row 3 l.length (toC (fun j => .val ((cellsX l).getD j (.int .i64 0))) zs (k * 3)))) := hR
    clear hR
    by_cases hlt : k < l.length
    · obtain ⟨b, off, rfl, hb, hc⟩ := h.resolve_left (by intro e; subst e; simp at hlt)
      obtain ⟨f0, f1, f2⟩ := (hc k hlt).below hB hb
      have hg : w.heap.size < wr.heap.size := (HR.out.lt (by omega)).1
      clear hB hB1 hR1 h hc
      go_wp2_with (go_at_call 119; refine (toEmit_any _ _ _ _).mono ?_; rintro e w2 ⟨rfl, hb2⟩; have HB2 : Hid (Below wr.heap.size wr w2) := hb2; have HR2 : Hid (OwnD w2 (fun k => w.heap.size ≤ k ∧ k < wr.heap.size) (sl w.heap.size l.length) (.row 3 l.length (toC (fun j => .val ((cellsX l).getD j (.int .i64 0))) zs (k * 3)))) := HR.out.under hb2; obtain ⟨c0, _, g0, z0, _⟩ := HR2.out.step (j := k * 3) (by omega); obtain ⟨c1, _, g1, z1, _⟩ := HR2.out.step (j := k * 3 + 1) (by omega); obtain ⟨c2, _, g2, z2, _⟩ := HR2.out.step (j := k * 3 + 2) (by omega); clear hb2)
      go_roundw
      case rel =>
        obtain ⟨e0, e1, e2⟩ := ems_at hlt
        refine ⟨k + 1, by omega, by go_num, (((HB.out.trans (HB2.out.mono (by omega))).setCell (p := ⟨w.heap.size, _, none⟩) (Nat.le_refl _) _).setCell (p := ⟨w.heap.size, _, none⟩) (Nat.le_refl _) _).setCell (p := ⟨w.heap.size, _, none⟩) (Nat.le_refl _) _, ?_⟩
        rw [show (k + 1) * 3 = k * 3 + 1 + 1 + 1 from by omega]
        exact (((HR2.out.fill_val (m := k * 3) (by omega) (by rw [e0])).fill_val (m := k * 3 + 1) (by omega) (by rw [e1])).fill_val (m := k * 3 + 2) (by omega) (by rw [e2])).mono (fun b hb => ⟨hb.1, by have := HB2.out.size; simp; omega⟩)
      case measure => simp [intOf]; omega
    · clear hB hB1 hR1 h
      go_wp2
      go_ret
      obtain rfl : k = l.length := by omega
      exact ⟨rfl, HB.out, HR.out.toAll rfl⟩

theorem ints_wt (l : List Int) : (intsD l).wt = l.length := flat_wt _ _ _
theorem ints_cnt (l : List Int) : (intsD l).cnt = l.length * 1 := flat_cnt _ _ _
theorem ints_thin (l : List Int) : (intsD l).thin := flat_thin (by omega)
theorem sz_ints (x : Value) (l : List Int) (left : Int) (w : World) (h0 : 0 ≤ left) (h1 : left ≤ 1048576) (h : IsD w x (intsD l)) :
    Calls Tryz.prog 47 #[x, .int .i64 left] w fun e w' => (∃ r, e = .returned (.int .i64 r) ∧ SzR (intsD l).wt left r) ∧ Below w.heap.size w w' := by
  obtain ⟨a, cap, rfl, hn⟩ := IsD.len (c := 1) (n := l.length) h
  refine (szI_any a l.length cap left w hn h0 h1).mono ?_
  rintro e w' ⟨rfl, rfl⟩
  exact ⟨⟨_, rfl, by rw [ints_wt]; exact szN_R _ _⟩, Below.refl _ _⟩
theorem eq_ints (x y : Value) (l : List Int) (w : World) (hl : l.length ≤ 1048576) (hx : IsD w x (intsD l)) (hy : IsD w y (intsD l)) :
    Calls Tryz.prog 39 #[x, y] w fun e w' => e = .returned (.bool true) ∧ Below w.heap.size w w' :=
  eqI_same x y l w (by omega) hx.isI hy.isI
theorem to_ints (x : Value) (l : List Int) (w : World) (hl : l.length ≤ 1048576) (h : IsD w x (intsD l)) :
    Calls Tryz.prog 37 #[x] w fun e w' => ∃ y, e = .returned y ∧ Below w.heap.size w w' ∧ OwnD w' (fun k => w.heap.size ≤ k ∧ k < w'.heap.size) y (intsD l) := by
  refine (toI_any x l w hl h.isI).mono ?_
  rintro e w' ⟨rfl, hb, hr⟩
  exact ⟨_, rfl, hb, ((hr.rowF (by unfold maxLen; omega)).mono (fun k e => by subst e; exact ⟨Nat.le_refl _, hr.1⟩)).own⟩
theorem mark_ints {F : Nat → Prop} {x : Value} {l : List Int} {w : World} (z : Int) (hn : l.length ≤ 1048577) (hz0 : 0 ≤ z) (hz1 : z ≤ 1073741824) (h : OwnD w F x (intsD l)) :
    Calls Tryz.prog 96 #[x, .int .i64 z] w fun e w' => e = .returned (.int .i64 (z + ((intsD l).cnt : Int))) ∧ OwnD w' F x ((intsD l).mark z) ∧ Turns F w w' := by
  refine (markIF z hn hz0 hz1 (OwnD.rowF (c := 1) h (by rw [intCells_length, Nat.mul_one]))).mono ?_
  rintro e w' ⟨rfl, hr, ht⟩
  refine ⟨ret_int ?_, flat_marked hr.own (ints_plain l), ht⟩
  rw [ints_cnt]
  omega
theorem held_ints {F : Nat → Prop} {x : Value} {l : List Int} {w : World} (z : Int) (hn : l.length ≤ 1048577) (hz0 : 0 ≤ z) (hz1 : z ≤ 1073741824) (h : OwnD w F x ((intsD l).mark z)) :
    Calls Tryz.prog 97 #[x, .int .i64 z] w fun e w' => e = .returned (.int .i64 (z + ((intsD l).cnt : Int))) ∧ Below w.heap.size w w' := by
  refine (heldIF (F := F) z hn hz0 hz1 (OwnD.rowF (c := 1) (flat_unmarked h (ints_plain l)) (mkCells_length _ _))).mono ?_
  rintro e w' ⟨rfl, rfl⟩
  refine ⟨ret_int ?_, Below.refl _ _⟩
  rw [ints_cnt]
  omega

theorem evs_wt (l : List Ev) : (evsD l).wt = l.length := flat_wt _ _ _
theorem evs_cnt (l : List Ev) : (evsD l).cnt = l.length * 7 := flat_cnt _ _ _
theorem evs_thin (l : List Ev) : (evsD l).thin := flat_thin (by omega)
theorem sz_evs (x : Value) (l : List Ev) (left : Int) (w : World) (h0 : 0 ≤ left) (h1 : left ≤ 1048576) (h : IsD w x (evsD l)) :
    Calls Tryz.prog 50 #[x, .int .i64 left] w fun e w' => (∃ r, e = .returned (.int .i64 r) ∧ SzR (evsD l).wt left r) ∧ Below w.heap.size w w' := by
  obtain ⟨a, cap, rfl, hn⟩ := IsD.len (c := 7) (n := l.length) h
  refine (szE_any a l.length cap left w hn h0 h1).mono ?_
  rintro e w' ⟨rfl, rfl⟩
  exact ⟨⟨_, rfl, by rw [evs_wt]; exact szN_R _ _⟩, Below.refl _ _⟩
theorem eq_evs (x y : Value) (l : List Ev) (w : World) (hl : l.length ≤ 1048576) (hx : IsD w x (evsD l)) (hy : IsD w y (evsD l)) :
    Calls Tryz.prog 75 #[x, y] w fun e w' => e = .returned (.bool true) ∧ Below w.heap.size w w' :=
  eqS_same x y l w hl hx.isEvs hy.isEvs
theorem to_evs (x : Value) (l : List Ev) (w : World) (hl : l.length ≤ 1048576) (h : IsD w x (evsD l)) :
    Calls Tryz.prog 61 #[x] w fun e w' => ∃ y, e = .returned y ∧ Below w.heap.size w w' ∧ OwnD w' (fun k => w.heap.size ≤ k ∧ k < w'.heap.size) y (evsD l) := by
  refine (toEventS_any x l w hl h.isEvs).mono ?_
  rintro e w' ⟨rfl, hb, hr⟩
  exact ⟨_, rfl, hb, ((hr.rowF (by unfold maxLen; omega)).mono (fun k e => by subst e; exact ⟨Nat.le_refl _, hr.1⟩)).own⟩
theorem mark_evs {F : Nat → Prop} {x : Value} {l : List Ev} {w : World} (z : Int) (hn : l.length ≤ 1048577) (hz0 : 0 ≤ z) (hz1 : z ≤ 1073741824) (h : OwnD w F x (evsD l)) :
    Calls Tryz.prog 148 #[x, .int .i64 z] w fun e w' => e = .returned (.int .i64 (z + ((evsD l).cnt : Int))) ∧ OwnD w' F x ((evsD l).mark z) ∧ Turns F w w' := by
  refine (markEF z hn hz0 hz1 (OwnD.rowF (c := 7) h (cellsL_length l))).mono ?_
  rintro e w' ⟨rfl, hr, ht⟩
  refine ⟨ret_int ?_, flat_marked hr.own (evs_plain l), ht⟩
  rw [evs_cnt]
  omega
theorem ems_wt (l : List Em) : (emsD l).wt = l.length := flat_wt _ _ _
theorem ems_cnt (l : List Em) : (emsD l).cnt = l.length * 3 := flat_cnt _ _ _
theorem ems_thin (l : List Em) : (emsD l).thin := flat_thin (by omega)
theorem sz_ems (x : Value) (l : List Em) (left : Int) (w : World) (h0 : 0 ≤ left) (h1 : left ≤ 1048576) (h : IsD w x (emsD l)) :
    Calls Tryz.prog 51 #[x, .int .i64 left] w fun e w' => (∃ r, e = .returned (.int .i64 r) ∧ SzR (emsD l).wt left r) ∧ Below w.heap.size w w' := by
  obtain ⟨a, cap, rfl, hn⟩ := IsD.len (c := 3) (n := l.length) h
  refine (szX_any a l.length cap left w hn h0 h1).mono ?_
  rintro e w' ⟨rfl, rfl⟩
  exact ⟨⟨_, rfl, by rw [ems_wt]; exact szN_R _ _⟩, Below.refl _ _⟩
theorem eq_ems (x y : Value) (l : List Em) (w : World) (hl : l.length ≤ 1048576) (hx : IsD w x (emsD l)) (hy : IsD w y (emsD l)) :
    Calls Tryz.prog 76 #[x, y] w fun e w' => e = .returned (.bool true) ∧ Below w.heap.size w w' :=
  eqX_same x y l w hl hx.isX hy.isX
theorem to_ems (x : Value) (l : List Em) (w : World) (hl : l.length ≤ 1048576) (h : IsD w x (emsD l)) :
    Calls Tryz.prog 62 #[x] w fun e w' => ∃ y, e = .returned y ∧ Below w.heap.size w w' ∧ OwnD w' (fun k => w.heap.size ≤ k ∧ k < w'.heap.size) y (emsD l) := by
  refine (toX_any x l w hl h.isX).mono ?_
  rintro e w' ⟨rfl, hb, hr⟩
  exact ⟨_, rfl, hb, hr⟩
theorem mark_ems {F : Nat → Prop} {x : Value} {l : List Em} {w : World} (z : Int) (hn : l.length ≤ 1048577) (hz0 : 0 ≤ z) (hz1 : z ≤ 1073741824) (h : OwnD w F x (emsD l)) :
    Calls Tryz.prog 151 #[x, .int .i64 z] w fun e w' => e = .returned (.int .i64 (z + ((emsD l).cnt : Int))) ∧ OwnD w' F x ((emsD l).mark z) ∧ Turns F w w' := by
  refine (markXF z hn hz0 hz1 (OwnD.rowF (c := 3) h (cellsX_length l))).mono ?_
  rintro e w' ⟨rfl, hr, ht⟩
  refine ⟨ret_int ?_, flat_marked hr.own (ems_plain l), ht⟩
  rw [ems_cnt]
  omega
set_option maxHeartbeats 2000000 in
theorem szState_R (x : Value) (s : St) (left : Int) (w : World) (h0 : 0 ≤ left) (h1 : left ≤ 1048576) (h : IsS w x s) :
    Calls Tryz.prog 154 #[x, .int .i64 left] w fun e w' => (∃ r, e = .returned (.int .i64 r) ∧ SzR (intsD s.r).wt left r) ∧ Below w.heap.size w w' := by
  obtain ⟨vr, rfl, hv⟩ := h
  obtain ⟨l, q, d⟩ := s
  have HI : Hid (IsI w vr l) := hv
  clear hv
  obtain ⟨W0, hW0⟩ : ∃ W0, w.alloc (.cells #[vr, .int .i64 q, .int .i64 d] 132) = W0 := ⟨_, rfl⟩
  have HB0 : Hid (Below w.heap.size w W0) := by rw [← hW0]; exact (Below.refl _ w).alloc (Nat.le_refl _) _
  have HP0 : Bk W0 w.heap.size 132 #[vr, .int .i64 q, .int .i64 d] := by rw [← hW0]; exact Bk.new w _ _
  have p0 := HP0.cell (i := 0) rfl
  clear HP0
  go_enter Tryz.func154, Tryz.ntmps154
  go_wp2_with fail
  clear p0 hW0
  refine (sz_ints _ l _ _ h0 h1 (HI.out.below HB0.out).isD).mono ?_
  rintro e w1 ⟨⟨r, rfl, hr⟩, hb⟩
  have HB1 : Hid (Below w.heap.size w w1) := HB0.out.trans (hb.mono HB0.out.size)
  clear hb
  rcases hr with rfl | ⟨r0, hr⟩
  · go_wp2
    go_ret
    exact ⟨⟨_, rfl, .inl rfl⟩, HB1.out⟩
  · have r2 : ¬ (r < 0) := by omega
    have HR : Hid (r + ((intsD l).wt : Int) = left) := hr
    clear hr
    go_wp2
    go_ret
    exact ⟨⟨_, rfl, .inr ⟨r0, HR.out⟩⟩, HB1.out⟩

end Go.Proofs.YtnlhcdchmgfipaaGreat

/- What was done: one event, the state ahead of it, what was sent and told; rows of it as data. -/
namespace Go.Proofs.YtnlhcdchmgfipaaGreat
open Go.RowKit
theorem sumL_add (L : Nat → Nat) (a : Nat) : ∀ b, sumL L (a + b) = sumL L a + sumL (fun i => L (a + i)) b
  | 0 => by simp [sumL]
  | b + 1 => by
    rw [← Nat.add_assoc]
    simp only [sumL]
    rw [sumL_add L a b]
    omega
theorem sumL_grid {c : Nat} {h : Nat → Nat → Nat} : ∀ n, sumL (fun j => h (j / c) (j % c)) (n * c) = sumL (fun i => sumL (fun r => h i r) c) n
  | 0 => by simp [sumL]
  | n + 1 => by
    rw [Nat.succ_mul, sumL_add, sumL_grid n]
    simp only [sumL]
    congr 1
    refine sumL_congr (fun r hr => ?_)
    rw [Nat.mul_comm n c, Nat.mul_add_div (by omega), Nat.div_eq_of_lt hr, Nat.add_zero, Nat.mul_add_mod, Nat.mod_eq_of_lt hr]
theorem sumL_mem (L : Nat → Nat) {n i : Nat} (h : i < n) : L i ≤ sumL L n := by
  have h1 := sumL_mono L (show i + 1 ≤ n from h)
  simp only [sumL] at h1
  omega
structure Ps where
  e : Ev
  b : St
  s : List Ev
  x : List Em
def psAt (l : List Ps) (i : Nat) : Ps := l.getD i ⟨⟨0, 0, 0, 0, 0, 0, 0⟩, ⟨[], 0, 0⟩, [], []⟩
def Ps.cell (p : Ps) : Nat → Dat
  | 0 => Dat.val (.int .i64 p.e.t)
  | 1 => Dat.val (.int .i64 p.e.s)
  | 2 => Dat.val (.int .i64 p.e.q)
  | 3 => Dat.val (.int .i64 p.e.d)
  | 4 => Dat.val (.int .i64 p.e.k)
  | 5 => Dat.val (.int .i64 p.e.v)
  | 6 => Dat.val (.int .i64 p.e.g)
  | 7 => intsD p.b.r
  | 8 => Dat.val (.int .i64 p.b.q)
  | 9 => Dat.val (.int .i64 p.b.d)
  | 10 => evsD p.s
  | 11 => emsD p.x
  | _ => .val (.int .i64 0)
def Ps.wt (p : Ps) : Nat := (intsD p.b.r).wt + (evsD p.s).wt + (emsD p.x).wt
def pastsD_f (l : List Ps) : Nat → Dat := fun j => (psAt l (j / 12)).cell (j % 12)
def pastsD (l : List Ps) : Dat := .row 12 l.length (pastsD_f l)
theorem pastsD_at (l : List Ps) (i : Nat) {r : Nat} (hr : r < 12) : pastsD_f l (i * 12 + r) = (psAt l i).cell r := by
  show (psAt l ((i * 12 + r) / 12)).cell ((i * 12 + r) % 12) = _
  rw [show (i * 12 + r) / 12 = i from by omega, show (i * 12 + r) % 12 = r from by omega]
theorem pastsD_wt (l : List Ps) : (pastsD l).wt = l.length + sumL (fun i => (psAt l i).wt) l.length := by
  show l.length + sumL (fun j => ((psAt l (j / 12)).cell (j % 12)).wt) (l.length * 12) = _
  rw [sumL_grid (h := fun i r => ((psAt l i).cell r).wt)]
  congr 1
  refine sumL_congr (fun i _ => ?_)
  simp only [sumL, Ps.cell, Ps.wt, Dat.wt, Nat.zero_add, Nat.add_zero]
theorem Ps.thin (p : Ps) (r : Nat) : (p.cell r).thin := by
  unfold Ps.cell
  split
  · trivial
  · trivial
  · trivial
  · trivial
  · trivial
  · trivial
  · trivial
  · exact ints_thin _
  · trivial
  · trivial
  · exact evs_thin _
  · exact ems_thin _
  · trivial
theorem pasts_thin (l : List Ps) : (pastsD l).thin := ⟨by omega, fun j => Ps.thin (psAt l (j / 12)) (j % 12)⟩
theorem Ps.wt_le {l : List Ps} {i : Nat} (h : i < l.length) : (psAt l i).wt ≤ (pastsD l).wt := by
  rw [pastsD_wt]
  have := sumL_mem (fun i => (psAt l i).wt) h
  omega
def Ps.cnt (p : Ps) : Nat := 1 + 1 + 1 + 1 + 1 + 1 + 1 + (intsD p.b.r).cnt + 1 + 1 + (evsD p.s).cnt + (emsD p.x).cnt
theorem pastsD_cnt (l : List Ps) : (pastsD l).cnt = sumL (fun i => (psAt l i).cnt) l.length := by
  show sumL (fun j => ((psAt l (j / 12)).cell (j % 12)).cnt) (l.length * 12) = _
  rw [sumL_grid (h := fun i r => ((psAt l i).cell r).cnt)]
  refine sumL_congr (fun i _ => ?_)
  simp only [sumL, Ps.cell, Ps.cnt, Dat.cnt, Nat.zero_add]
def IsPast (w : World) (x : Value) (p : Ps) : Prop := ∃ u7 u10 u11, x = .agg #[.int .i64 p.e.t, .int .i64 p.e.s, .int .i64 p.e.q, .int .i64 p.e.d, .int .i64 p.e.k, .int .i64 p.e.v, .int .i64 p.e.g, u7, .int .i64 p.b.q, .int .i64 p.b.d, u10, u11] ∧ IsD w u7 (intsD p.b.r) ∧ IsD w u10 (evsD p.s) ∧ IsD w u11 (emsD p.x)
theorem IsPast.under {w w' : World} {x : Value} {p : Ps} (h : IsPast w x p) (hb : Below w.heap.size w w') : IsPast w' x p := by
  obtain ⟨u7, u10, u11, rfl, h7, h10, h11⟩ := h
  exact ⟨u7, u10, u11, rfl, h7.under hb, h10.under hb, h11.under hb⟩
theorem pastsD_in {w : World} {b off n : Nat} {l : List Ps} (h : ∀ j, j < n * 12 → ∃ u, w.cell? ⟨b, off + j, none⟩ = some u ∧ IsD w u ((psAt l (j / 12)).cell (j % 12))) {i : Nat} (hi : i < n) :
    ∃ u7 u10 u11, w.cell? ⟨b, off + i * 12, none⟩ = some (.int .i64 (psAt l i).e.t) ∧ w.cell? ⟨b, off + i * 12 + 1, none⟩ = some (.int .i64 (psAt l i).e.s) ∧ w.cell? ⟨b, off + i * 12 + 2, none⟩ = some (.int .i64 (psAt l i).e.q) ∧ w.cell? ⟨b, off + i * 12 + 3, none⟩ = some (.int .i64 (psAt l i).e.d) ∧ w.cell? ⟨b, off + i * 12 + 4, none⟩ = some (.int .i64 (psAt l i).e.k) ∧ w.cell? ⟨b, off + i * 12 + 5, none⟩ = some (.int .i64 (psAt l i).e.v) ∧ w.cell? ⟨b, off + i * 12 + 6, none⟩ = some (.int .i64 (psAt l i).e.g) ∧ w.cell? ⟨b, off + i * 12 + 7, none⟩ = some (u7) ∧ w.cell? ⟨b, off + i * 12 + 8, none⟩ = some (.int .i64 (psAt l i).b.q) ∧ w.cell? ⟨b, off + i * 12 + 9, none⟩ = some (.int .i64 (psAt l i).b.d) ∧ w.cell? ⟨b, off + i * 12 + 10, none⟩ = some (u10) ∧ w.cell? ⟨b, off + i * 12 + 11, none⟩ = some (u11) ∧ IsD w u7 (intsD (psAt l i).b.r) ∧ IsD w u10 (evsD (psAt l i).s) ∧ IsD w u11 (emsD (psAt l i).x) := by
  have hh : ∀ r, r < 12 → ∃ u, w.cell? ⟨b, off + i * 12 + r, none⟩ = some u ∧ IsD w u ((psAt l i).cell r) := fun r hr => by
    have := h (i * 12 + r) (by omega)
    rw [show (i * 12 + r) / 12 = i from by omega, show (i * 12 + r) % 12 = r from by omega, ← Nat.add_assoc] at this
    exact this
  obtain ⟨u0, c0, d0⟩ := hh 0 (by omega)
  obtain ⟨u1, c1, d1⟩ := hh 1 (by omega)
  obtain ⟨u2, c2, d2⟩ := hh 2 (by omega)
  obtain ⟨u3, c3, d3⟩ := hh 3 (by omega)
  obtain ⟨u4, c4, d4⟩ := hh 4 (by omega)
  obtain ⟨u5, c5, d5⟩ := hh 5 (by omega)
  obtain ⟨u6, c6, d6⟩ := hh 6 (by omega)
  obtain ⟨u7, c7, d7⟩ := hh 7 (by omega)
  obtain ⟨u8, c8, d8⟩ := hh 8 (by omega)
  obtain ⟨u9, c9, d9⟩ := hh 9 (by omega)
  obtain ⟨u10, c10, d10⟩ := hh 10 (by omega)
  obtain ⟨u11, c11, d11⟩ := hh 11 (by omega)
  obtain rfl := d0.val_eq
  obtain rfl := d1.val_eq
  obtain rfl := d2.val_eq
  obtain rfl := d3.val_eq
  obtain rfl := d4.val_eq
  obtain rfl := d5.val_eq
  obtain rfl := d6.val_eq
  obtain rfl := d8.val_eq
  obtain rfl := d9.val_eq
  exact ⟨u7, u10, u11, c0, c1, c2, c3, c4, c5, c6, c7, c8, c9, c10, c11, d7, d10, d11⟩
end Go.Proofs.YtnlhcdchmgfipaaGreat

/- A part, as plain values and as data. -/
namespace Go.Proofs.YtnlhcdchmgfipaaGreat
open Go.RowKit
structure Pa where
  n : Int
  st : St
  p : List Ps
  t : List Ev
  a : List Int
def paAt (l : List Pa) (i : Nat) : Pa := l.getD i ⟨0, ⟨[], 0, 0⟩, [], [], []⟩
def Pa.cell (p : Pa) : Nat → Dat
  | 0 => Dat.val (.int .i64 p.n)
  | 1 => intsD p.st.r
  | 2 => Dat.val (.int .i64 p.st.q)
  | 3 => Dat.val (.int .i64 p.st.d)
  | 4 => pastsD p.p
  | 5 => evsD p.t
  | 6 => intsD p.a
  | _ => .val (.int .i64 0)
def Pa.wt (p : Pa) : Nat := (intsD p.st.r).wt + (pastsD p.p).wt + (evsD p.t).wt + (intsD p.a).wt
def partsD_f (l : List Pa) : Nat → Dat := fun j => (paAt l (j / 7)).cell (j % 7)
def partsD (l : List Pa) : Dat := .row 7 l.length (partsD_f l)
theorem partsD_at (l : List Pa) (i : Nat) {r : Nat} (hr : r < 7) : partsD_f l (i * 7 + r) = (paAt l i).cell r := by
  show (paAt l ((i * 7 + r) / 7)).cell ((i * 7 + r) % 7) = _
  rw [show (i * 7 + r) / 7 = i from by omega, show (i * 7 + r) % 7 = r from by omega]
theorem partsD_wt (l : List Pa) : (partsD l).wt = l.length + sumL (fun i => (paAt l i).wt) l.length := by
  show l.length + sumL (fun j => ((paAt l (j / 7)).cell (j % 7)).wt) (l.length * 7) = _
  rw [sumL_grid (h := fun i r => ((paAt l i).cell r).wt)]
  congr 1
  refine sumL_congr (fun i _ => ?_)
  simp only [sumL, Pa.cell, Pa.wt, Dat.wt, Nat.zero_add, Nat.add_zero]
theorem Pa.thin (p : Pa) (r : Nat) : (p.cell r).thin := by
  unfold Pa.cell
  split
  · trivial
  · exact ints_thin _
  · trivial
  · trivial
  · exact pasts_thin _
  · exact evs_thin _
  · exact ints_thin _
  · trivial
theorem parts_thin (l : List Pa) : (partsD l).thin := ⟨by omega, fun j => Pa.thin (paAt l (j / 7)) (j % 7)⟩
theorem Pa.wt_le {l : List Pa} {i : Nat} (h : i < l.length) : (paAt l i).wt ≤ (partsD l).wt := by
  rw [partsD_wt]
  have := sumL_mem (fun i => (paAt l i).wt) h
  omega
def Pa.cnt (p : Pa) : Nat := 1 + (intsD p.st.r).cnt + 1 + 1 + (pastsD p.p).cnt + (evsD p.t).cnt + (intsD p.a).cnt
theorem partsD_cnt (l : List Pa) : (partsD l).cnt = sumL (fun i => (paAt l i).cnt) l.length := by
  show sumL (fun j => ((paAt l (j / 7)).cell (j % 7)).cnt) (l.length * 7) = _
  rw [sumL_grid (h := fun i r => ((paAt l i).cell r).cnt)]
  refine sumL_congr (fun i _ => ?_)
  simp only [sumL, Pa.cell, Pa.cnt, Dat.cnt, Nat.zero_add]
def IsPart (w : World) (x : Value) (p : Pa) : Prop := ∃ u1 u4 u5 u6, x = .agg #[.int .i64 p.n, u1, .int .i64 p.st.q, .int .i64 p.st.d, u4, u5, u6] ∧ IsD w u1 (intsD p.st.r) ∧ IsD w u4 (pastsD p.p) ∧ IsD w u5 (evsD p.t) ∧ IsD w u6 (intsD p.a)
theorem IsPart.under {w w' : World} {x : Value} {p : Pa} (h : IsPart w x p) (hb : Below w.heap.size w w') : IsPart w' x p := by
  obtain ⟨u1, u4, u5, u6, rfl, h1, h4, h5, h6⟩ := h
  exact ⟨u1, u4, u5, u6, rfl, h1.under hb, h4.under hb, h5.under hb, h6.under hb⟩
theorem partsD_in {w : World} {b off n : Nat} {l : List Pa} (h : ∀ j, j < n * 7 → ∃ u, w.cell? ⟨b, off + j, none⟩ = some u ∧ IsD w u ((paAt l (j / 7)).cell (j % 7))) {i : Nat} (hi : i < n) :
    ∃ u1 u4 u5 u6, w.cell? ⟨b, off + i * 7, none⟩ = some (.int .i64 (paAt l i).n) ∧ w.cell? ⟨b, off + i * 7 + 1, none⟩ = some (u1) ∧ w.cell? ⟨b, off + i * 7 + 2, none⟩ = some (.int .i64 (paAt l i).st.q) ∧ w.cell? ⟨b, off + i * 7 + 3, none⟩ = some (.int .i64 (paAt l i).st.d) ∧ w.cell? ⟨b, off + i * 7 + 4, none⟩ = some (u4) ∧ w.cell? ⟨b, off + i * 7 + 5, none⟩ = some (u5) ∧ w.cell? ⟨b, off + i * 7 + 6, none⟩ = some (u6) ∧ IsD w u1 (intsD (paAt l i).st.r) ∧ IsD w u4 (pastsD (paAt l i).p) ∧ IsD w u5 (evsD (paAt l i).t) ∧ IsD w u6 (intsD (paAt l i).a) := by
  have hh : ∀ r, r < 7 → ∃ u, w.cell? ⟨b, off + i * 7 + r, none⟩ = some u ∧ IsD w u ((paAt l i).cell r) := fun r hr => by
    have := h (i * 7 + r) (by omega)
    rw [show (i * 7 + r) / 7 = i from by omega, show (i * 7 + r) % 7 = r from by omega, ← Nat.add_assoc] at this
    exact this
  obtain ⟨u0, c0, d0⟩ := hh 0 (by omega)
  obtain ⟨u1, c1, d1⟩ := hh 1 (by omega)
  obtain ⟨u2, c2, d2⟩ := hh 2 (by omega)
  obtain ⟨u3, c3, d3⟩ := hh 3 (by omega)
  obtain ⟨u4, c4, d4⟩ := hh 4 (by omega)
  obtain ⟨u5, c5, d5⟩ := hh 5 (by omega)
  obtain ⟨u6, c6, d6⟩ := hh 6 (by omega)
  obtain rfl := d0.val_eq
  obtain rfl := d2.val_eq
  obtain rfl := d3.val_eq
  exact ⟨u1, u4, u5, u6, c0, c1, c2, c3, c4, c5, c6, d1, d4, d5, d6⟩
end Go.Proofs.YtnlhcdchmgfipaaGreat

/- szPast, szPastS: how much there is; eqPast: two alike. -/
namespace Go.Proofs.YtnlhcdchmgfipaaGreat
open Go.RowKit
set_option maxHeartbeats 4000000 in
theorem szPast_any (x : Value) (p : Ps) (left : Int) (w : World) (h0 : 0 ≤ left) (h1 : left ≤ 1048576) (h : IsPast w x p) :
    Calls Tryz.prog 188 #[x, .int .i64 left] w fun e w' => (∃ r, e = .returned (.int .i64 r) ∧ SzR p.wt left r) ∧ Below w.heap.size w w' := by
  obtain ⟨u7, u10, u11, rfl, h7, h10, h11⟩ := h
  have H7 : Hid (IsD w u7 (intsD p.b.r)) := h7
  have H10 : Hid (IsD w u10 (evsD p.s)) := h10
  have H11 : Hid (IsD w u11 (emsD p.x)) := h11
  clear h7 h10 h11
  obtain ⟨W0, hW0⟩ : ∃ W0, w.alloc (.cells #[.int .i64 p.e.t, .int .i64 p.e.s, .int .i64 p.e.q, .int .i64 p.e.d, .int .i64 p.e.k, .int .i64 p.e.v, .int .i64 p.e.g, u7, .int .i64 p.b.q, .int .i64 p.b.d, u10, u11] 217) = W0 := ⟨_, rfl⟩
  have HB0 : Hid (Below w.heap.size w W0) := by rw [← hW0]; exact (Below.refl _ w).alloc (Nat.le_refl _) _
  have HP0 : Hid (Bk W0 w.heap.size 217 #[.int .i64 p.e.t, .int .i64 p.e.s, .int .i64 p.e.q, .int .i64 p.e.d, .int .i64 p.e.k, .int .i64 p.e.v, .int .i64 p.e.g, u7, .int .i64 p.b.q, .int .i64 p.b.d, u10, u11]) := by rw [← hW0]; exact Bk.new w _ _
  have HW : Hid (w.alloc (.cells #[.int .i64 p.e.t, .int .i64 p.e.s, .int .i64 p.e.q, .int .i64 p.e.d, .int .i64 p.e.k, .int .i64 p.e.v, .int .i64 p.e.g, u7, .int .i64 p.b.q, .int .i64 p.b.d, u10, u11] 217) = W0) := hW0
  clear hW0
  go_enter Tryz.func188, Tryz.ntmps188
  have p7 := HP0.out.cell (i := 7) rfl
  have p8 := HP0.out.cell (i := 8) rfl
  have p9 := HP0.out.cell (i := 9) rfl
  go_wp2_with fail
  rw [HW.out]
  clear HW
  clear p7 p8 p9
  refine (szState_R _ p.b _ _ h0 h1 ⟨_, rfl, (H7.out.under HB0.out).isI⟩).mono ?_
  rintro e w1 ⟨⟨r1, rfl, hr⟩, hb⟩
  have HB1 : Hid (Below w.heap.size w w1) := HB0.out.trans (hb.mono HB0.out.size)
  have HP1 : Hid (Bk w1 w.heap.size 217 #[.int .i64 p.e.t, .int .i64 p.e.s, .int .i64 p.e.q, .int .i64 p.e.d, .int .i64 p.e.k, .int .i64 p.e.v, .int .i64 p.e.g, u7, .int .i64 p.b.q, .int .i64 p.b.d, u10, u11]) := HP0.out.below hb
  clear hb
  rcases hr with rfl | ⟨r10, hr⟩
  · go_wp2
    go_ret
    exact ⟨⟨_, rfl, .inl rfl⟩, HB1.out⟩
  have r11 : r1 ≤ 1048576 := by omega
  have r12 : ¬ (r1 < 0) := by omega
  have HR1 : Hid (r1 + ((intsD p.b.r).wt : Int) = left) := hr
  clear hr
  have p10 := HP1.out.cell (i := 10) rfl
  go_wp2_with fail
  clear p10
  refine (sz_evs _ p.s _ _ r10 r11 (H10.out.under HB1.out)).mono ?_
  rintro e w2 ⟨⟨r2, rfl, hr⟩, hb⟩
  have HB2 : Hid (Below w.heap.size w w2) := HB1.out.trans (hb.mono HB1.out.size)
  have HP2 : Hid (Bk w2 w.heap.size 217 #[.int .i64 p.e.t, .int .i64 p.e.s, .int .i64 p.e.q, .int .i64 p.e.d, .int .i64 p.e.k, .int .i64 p.e.v, .int .i64 p.e.g, u7, .int .i64 p.b.q, .int .i64 p.b.d, u10, u11]) := HP1.out.below hb
  clear hb
  rcases hr with rfl | ⟨r20, hr⟩
  · go_wp2
    go_ret
    exact ⟨⟨_, rfl, .inl rfl⟩, HB2.out⟩
  have r21 : r2 ≤ 1048576 := by omega
  have r22 : ¬ (r2 < 0) := by omega
  have HR2 : Hid (r2 + ((evsD p.s).wt : Int) = r1) := hr
  clear hr
  have p11 := HP2.out.cell (i := 11) rfl
  go_wp2_with fail
  clear p11
  refine (sz_ems _ p.x _ _ r20 r21 (H11.out.under HB2.out)).mono ?_
  rintro e w3 ⟨⟨r3, rfl, hr⟩, hb⟩
  have HB3 : Hid (Below w.heap.size w w3) := HB2.out.trans (hb.mono HB2.out.size)
  have HP3 : Hid (Bk w3 w.heap.size 217 #[.int .i64 p.e.t, .int .i64 p.e.s, .int .i64 p.e.q, .int .i64 p.e.d, .int .i64 p.e.k, .int .i64 p.e.v, .int .i64 p.e.g, u7, .int .i64 p.b.q, .int .i64 p.b.d, u10, u11]) := HP2.out.below hb
  clear hb
  rcases hr with rfl | ⟨r30, hr⟩
  · go_wp2
    go_ret
    exact ⟨⟨_, rfl, .inl rfl⟩, HB3.out⟩
  have r31 : r3 ≤ 1048576 := by omega
  have r32 : ¬ (r3 < 0) := by omega
  have HR3 : Hid (r3 + ((emsD p.x).wt : Int) = r2) := hr
  clear hr
  go_wp2
  go_ret
  refine ⟨⟨_, rfl, .inr ⟨r30, ?_⟩⟩, HB3.out⟩
  have := HR1.out
  have := HR2.out
  have := HR3.out
  unfold Ps.wt
  omega
set_option maxHeartbeats 4000000 in
theorem sz_pasts (x : Value) (l : List Ps) (left : Int) (w : World) (h0 : 0 ≤ left) (h1 : left ≤ 1048576) (h : IsD w x (pastsD l)) :
    Calls Tryz.prog 155 #[x, .int .i64 left] w fun e w' => (∃ r, e = .returned (.int .i64 r) ∧ SzR (pastsD l).wt left r) ∧ Below w.heap.size w w' := by
  obtain ⟨a, cap, rfl, hn1, hn, h⟩ := IsD.parts (c := 12) (n := l.length) h
  have hn2 : l.length ≤ 9223372036854775807 := by unfold maxLen at hn; omega
  clear hn1 hn
  by_cases hp : left - (l.length : Int) < 0
  · go_enter Tryz.func155, Tryz.ntmps155
    go_wp2
    go_ret
    exact ⟨⟨_, rfl, .inl rfl⟩, Below.refl _ _⟩
  · have HLF : Hid (0 ≤ left - (l.length : Int)) := (by omega : 0 ≤ left - (l.length : Int))
    go_enter Tryz.func155, Tryz.ntmps155
    go_wp2
    go_loopw [5, 1] (fun i z wr => ∃ k : Nat, k ≤ l.length ∧ i = .int .i64 k ∧ Below w.heap.size w wr ∧ ∃ lf : Int, z = .int .i64 lf ∧ 0 ≤ lf ∧ lf + (l.length : Int) + (sumL (fun i => (psAt l i).wt) k : Int) = left) (fun i _ _ => l.length - (intOf i).toNat)
    case atStart => exact ⟨0, Nat.zero_le _, rfl, Below.refl _ _, left - (l.length : Int), rfl, HLF.out, by simp [sumL]⟩
    case round =>
      obtain ⟨k, hk, rfl, hB, lf2, rfl, hz0, hz1⟩ := hrel
      have HZ : Hid (lf2 + (l.length : Int) + (sumL (fun i => (psAt l i).wt) k : Int) = left) := hz1
      have HB : Hid (Below w.heap.size w wr) := hB
      have hz2 : lf2 ≤ 1048576 := by omega
      clear hz1
      by_cases hlt : k < l.length
      · obtain ⟨b, off, rfl, hb, hc⟩ := h.resolve_left (by omega)
        obtain ⟨u7, u10, u11, f0, f1, f2, f3, f4, f5, f6, f7, f8, f9, f10, f11, d7, d10, d11⟩ := pastsD_in (fun j hj => by
          obtain ⟨u, hu, hd⟩ := hc j hj
          exact ⟨u, (hB.cell (p := ⟨b, off + j, none⟩) hb).trans hu, hd.under hB⟩) hlt
        have HD : Hid (IsPast wr (.agg #[.int .i64 (psAt l k).e.t, .int .i64 (psAt l k).e.s, .int .i64 (psAt l k).e.q, .int .i64 (psAt l k).e.d, .int .i64 (psAt l k).e.k, .int .i64 (psAt l k).e.v, .int .i64 (psAt l k).e.g, u7, .int .i64 (psAt l k).b.q, .int .i64 (psAt l k).b.d, u10, u11]) (psAt l k)) := ⟨u7, u10, u11, rfl, d7, d10, d11⟩
        clear h hc hB d7 d10 d11
        go_wp2_with fail
        clear f0 f1 f2 f3 f4 f5 f6 f7 f8 f9 f10 f11
        refine (szPast_any _ (psAt l k) _ _ hz0 hz2 HD.out).mono ?_
        rintro e w2 ⟨⟨r, rfl, hr⟩, hb2⟩
        have HB2 : Hid (Below w.heap.size w w2) := HB.out.trans (hb2.mono HB.out.size)
        clear hb2
        rcases hr with rfl | ⟨r0, hr⟩
        · go_wp2
          go_ret
          exact ⟨⟨_, rfl, .inl rfl⟩, HB2.out⟩
        · have HR : Hid (r + ((psAt l k).wt : Int) = lf2) := hr
          have r2 : ¬ (r < 0) := by omega
          clear hr
          go_wp2
          go_roundw
          case rel => exact ⟨k + 1, by omega, by go_num, HB2.out, r, rfl, r0, by have := HR.out; have := HZ.out; simp only [sumL]; omega⟩
          case measure => simp [intOf]; omega
      · clear h hB
        go_wp2
        go_ret
        obtain rfl : k = l.length := by omega
        exact ⟨⟨_, rfl, .inr ⟨hz0, by rw [pastsD_wt]; have := HZ.out; omega⟩⟩, HB.out⟩
set_option maxHeartbeats 4000000 in
theorem eqPast_same (x y : Value) (p : Ps) (w : World) (hw : p.wt ≤ 1048576) (hx : IsPast w x p) (hy : IsPast w y p) :
    Calls Tryz.prog 197 #[x, y] w fun e w' => e = .returned (.bool true) ∧ Below w.heap.size w w' := by
  obtain ⟨u7, u10, u11, rfl, h7, h10, h11⟩ := hx
  obtain ⟨v7, v10, v11, rfl, k7, k10, k11⟩ := hy
  have H7 : Hid (IsD w u7 (intsD p.b.r) ∧ IsD w v7 (intsD p.b.r)) := ⟨h7, k7⟩
  have H10 : Hid (IsD w u10 (evsD p.s) ∧ IsD w v10 (evsD p.s)) := ⟨h10, k10⟩
  have H11 : Hid (IsD w u11 (emsD p.x) ∧ IsD w v11 (emsD p.x)) := ⟨h11, k11⟩
  have HS : Hid (p.wt ≤ 1048576) := hw
  clear hw h7 k7 h10 k10 h11 k11
  obtain ⟨W0, hW0⟩ : ∃ W0, (w.alloc (.cells #[.int .i64 p.e.t, .int .i64 p.e.s, .int .i64 p.e.q, .int .i64 p.e.d, .int .i64 p.e.k, .int .i64 p.e.v, .int .i64 p.e.g, u7, .int .i64 p.b.q, .int .i64 p.b.d, u10, u11] 147)).alloc (.cells #[.int .i64 p.e.t, .int .i64 p.e.s, .int .i64 p.e.q, .int .i64 p.e.d, .int .i64 p.e.k, .int .i64 p.e.v, .int .i64 p.e.g, v7, .int .i64 p.b.q, .int .i64 p.b.d, v10, v11] 147) = W0 := ⟨_, rfl⟩
  have HB0 : Hid (Below w.heap.size w W0) := by rw [← hW0]; exact ((Below.refl _ w).alloc (Nat.le_refl _) _).alloc (by simp) _
  have HP0 : Hid (Bk W0 w.heap.size 147 #[.int .i64 p.e.t, .int .i64 p.e.s, .int .i64 p.e.q, .int .i64 p.e.d, .int .i64 p.e.k, .int .i64 p.e.v, .int .i64 p.e.g, u7, .int .i64 p.b.q, .int .i64 p.b.d, u10, u11]) := by rw [← hW0]; exact (Bk.new w _ _).alloc _
  have HQ0 : Hid (Bk W0 (w.heap.size + 1) 147 #[.int .i64 p.e.t, .int .i64 p.e.s, .int .i64 p.e.q, .int .i64 p.e.d, .int .i64 p.e.k, .int .i64 p.e.v, .int .i64 p.e.g, v7, .int .i64 p.b.q, .int .i64 p.b.d, v10, v11]) := by rw [← hW0]; exact Bk.newAt (by simp) _ _
  have HW : Hid ((w.alloc (.cells #[.int .i64 p.e.t, .int .i64 p.e.s, .int .i64 p.e.q, .int .i64 p.e.d, .int .i64 p.e.k, .int .i64 p.e.v, .int .i64 p.e.g, u7, .int .i64 p.b.q, .int .i64 p.b.d, u10, u11] 147)).alloc (.cells #[.int .i64 p.e.t, .int .i64 p.e.s, .int .i64 p.e.q, .int .i64 p.e.d, .int .i64 p.e.k, .int .i64 p.e.v, .int .i64 p.e.g, v7, .int .i64 p.b.q, .int .i64 p.b.d, v10, v11] 147) = W0) := hW0
  clear hW0
  go_enter Tryz.func197, Tryz.ntmps197
  have p0 := HP0.out.cell (i := 0) rfl
  have q0 := HQ0.out.cell (i := 0) rfl
  have p1 := HP0.out.cell (i := 1) rfl
  have q1 := HQ0.out.cell (i := 1) rfl
  have p2 := HP0.out.cell (i := 2) rfl
  have q2 := HQ0.out.cell (i := 2) rfl
  have p3 := HP0.out.cell (i := 3) rfl
  have q3 := HQ0.out.cell (i := 3) rfl
  have p4 := HP0.out.cell (i := 4) rfl
  have q4 := HQ0.out.cell (i := 4) rfl
  have p5 := HP0.out.cell (i := 5) rfl
  have q5 := HQ0.out.cell (i := 5) rfl
  have p6 := HP0.out.cell (i := 6) rfl
  have q6 := HQ0.out.cell (i := 6) rfl
  go_wp2_with fail
  rw [HW.out]
  clear HW
  clear p0 q0 p1 q1 p2 q2 p3 q3 p4 q4 p5 q5 p6 q6
  refine (eqEvent_same _ _ _ _ _ _ _ _).mono ?_
  rintro e w1 ⟨rfl, hb⟩
  have HB1 : Hid (Below w.heap.size w w1) := HB0.out.trans (hb.mono HB0.out.size)
  have HP1 : Hid (Bk w1 w.heap.size 147 #[.int .i64 p.e.t, .int .i64 p.e.s, .int .i64 p.e.q, .int .i64 p.e.d, .int .i64 p.e.k, .int .i64 p.e.v, .int .i64 p.e.g, u7, .int .i64 p.b.q, .int .i64 p.b.d, u10, u11]) := HP0.out.below hb
  have HQ1 : Hid (Bk w1 (w.heap.size + 1) 147 #[.int .i64 p.e.t, .int .i64 p.e.s, .int .i64 p.e.q, .int .i64 p.e.d, .int .i64 p.e.k, .int .i64 p.e.v, .int .i64 p.e.g, v7, .int .i64 p.b.q, .int .i64 p.b.d, v10, v11]) := HQ0.out.below hb
  clear hb
  have p7 := HP1.out.cell (i := 7) rfl
  have q7 := HQ1.out.cell (i := 7) rfl
  have p8 := HP1.out.cell (i := 8) rfl
  have q8 := HQ1.out.cell (i := 8) rfl
  have p9 := HP1.out.cell (i := 9) rfl
  have q9 := HQ1.out.cell (i := 9) rfl
  go_wp2_with fail
  clear p7 q7 p8 q8 p9 q9
  refine (eqState_same _ _ p.b _ (by have := HS.out; unfold Ps.wt at this; simp only [ems_wt, evs_wt, ints_wt] at this; omega) ⟨_, rfl, (H7.out.1.under HB1.out).isI⟩ ⟨_, rfl, (H7.out.2.under HB1.out).isI⟩).mono ?_
  rintro e w2 ⟨rfl, hb⟩
  have HB2 : Hid (Below w.heap.size w w2) := HB1.out.trans (hb.mono HB1.out.size)
  have HP2 : Hid (Bk w2 w.heap.size 147 #[.int .i64 p.e.t, .int .i64 p.e.s, .int .i64 p.e.q, .int .i64 p.e.d, .int .i64 p.e.k, .int .i64 p.e.v, .int .i64 p.e.g, u7, .int .i64 p.b.q, .int .i64 p.b.d, u10, u11]) := HP1.out.below hb
  have HQ2 : Hid (Bk w2 (w.heap.size + 1) 147 #[.int .i64 p.e.t, .int .i64 p.e.s, .int .i64 p.e.q, .int .i64 p.e.d, .int .i64 p.e.k, .int .i64 p.e.v, .int .i64 p.e.g, v7, .int .i64 p.b.q, .int .i64 p.b.d, v10, v11]) := HQ1.out.below hb
  clear hb
  have p10 := HP2.out.cell (i := 10) rfl
  have q10 := HQ2.out.cell (i := 10) rfl
  go_wp2_with fail
  clear p10 q10
  refine (eq_evs _ _ p.s _ (by have := HS.out; unfold Ps.wt at this; simp only [ems_wt, evs_wt, ints_wt] at this; omega) (H10.out.1.under HB2.out) (H10.out.2.under HB2.out)).mono ?_
  rintro e w3 ⟨rfl, hb⟩
  have HB3 : Hid (Below w.heap.size w w3) := HB2.out.trans (hb.mono HB2.out.size)
  have HP3 : Hid (Bk w3 w.heap.size 147 #[.int .i64 p.e.t, .int .i64 p.e.s, .int .i64 p.e.q, .int .i64 p.e.d, .int .i64 p.e.k, .int .i64 p.e.v, .int .i64 p.e.g, u7, .int .i64 p.b.q, .int .i64 p.b.d, u10, u11]) := HP2.out.below hb
  have HQ3 : Hid (Bk w3 (w.heap.size + 1) 147 #[.int .i64 p.e.t, .int .i64 p.e.s, .int .i64 p.e.q, .int .i64 p.e.d, .int .i64 p.e.k, .int .i64 p.e.v, .int .i64 p.e.g, v7, .int .i64 p.b.q, .int .i64 p.b.d, v10, v11]) := HQ2.out.below hb
  clear hb
  have p11 := HP3.out.cell (i := 11) rfl
  have q11 := HQ3.out.cell (i := 11) rfl
  go_wp2_with fail
  clear p11 q11
  refine (eq_ems _ _ p.x _ (by have := HS.out; unfold Ps.wt at this; simp only [ems_wt, evs_wt, ints_wt] at this; omega) (H11.out.1.under HB3.out) (H11.out.2.under HB3.out)).mono ?_
  rintro e w4 ⟨rfl, hb⟩
  have HB4 : Hid (Below w.heap.size w w4) := HB3.out.trans (hb.mono HB3.out.size)
  have HP4 : Hid (Bk w4 w.heap.size 147 #[.int .i64 p.e.t, .int .i64 p.e.s, .int .i64 p.e.q, .int .i64 p.e.d, .int .i64 p.e.k, .int .i64 p.e.v, .int .i64 p.e.g, u7, .int .i64 p.b.q, .int .i64 p.b.d, u10, u11]) := HP3.out.below hb
  have HQ4 : Hid (Bk w4 (w.heap.size + 1) 147 #[.int .i64 p.e.t, .int .i64 p.e.s, .int .i64 p.e.q, .int .i64 p.e.d, .int .i64 p.e.k, .int .i64 p.e.v, .int .i64 p.e.g, v7, .int .i64 p.b.q, .int .i64 p.b.d, v10, v11]) := HQ3.out.below hb
  clear hb
  go_wp2
  go_ret
  exact ⟨rfl, HB4.out⟩
end Go.Proofs.YtnlhcdchmgfipaaGreat

/- eqPastS: two rows alike. -/
namespace Go.Proofs.YtnlhcdchmgfipaaGreat
open Go.RowKit
set_option maxHeartbeats 8000000 in
theorem eq_pasts (x y : Value) (l : List Ps) (w : World) (hl : (pastsD l).wt ≤ 1048576) (hx : IsD w x (pastsD l)) (hy : IsD w y (pastsD l)) :
    Calls Tryz.prog 178 #[x, y] w fun e w' => e = .returned (.bool true) ∧ Below w.heap.size w w' := by
  obtain ⟨a, cap, rfl, h1, h2, h⟩ := IsD.parts (c := 12) (n := l.length) hx
  obtain ⟨a', cap', rfl, h1', h2', h'⟩ := IsD.parts (c := 12) (n := l.length) hy
  have HS : Hid ((pastsD l).wt ≤ 1048576) := hl
  have hl2 : l.length ≤ 1048576 := by rw [pastsD_wt] at hl; omega
  clear h1 h2 h1' h2' hx hy hl
  go_enter Tryz.func178, Tryz.ntmps178
  go_wp2
  go_loopw [5] (fun i wr => ∃ k : Nat, k ≤ l.length ∧ i = .int .i64 k ∧ Below w.heap.size w wr) (fun i _ => l.length - (intOf i).toNat)
  case atStart => exact ⟨0, Nat.zero_le _, rfl, Below.refl _ _⟩
  case round =>
    obtain ⟨k, hk, rfl, hB⟩ := hrel
    have HB : Hid (Below w.heap.size w wr) := hB
    by_cases hlt : k < l.length
    · obtain ⟨b, off, rfl, hb, hc⟩ := h.resolve_left (by omega)
      obtain ⟨b', off', rfl, hb', hc'⟩ := h'.resolve_left (by omega)
      obtain ⟨u7, u10, u11, f0, f1, f2, f3, f4, f5, f6, f7, f8, f9, f10, f11, d7, d10, d11⟩ := pastsD_in (fun j hj => by
        obtain ⟨u, hu, hd⟩ := hc j hj
        exact ⟨u, (hB.cell (p := ⟨b, off + j, none⟩) hb).trans hu, hd.under hB⟩) hlt
      obtain ⟨v7, v10, v11, e0, e1, e2, e3, e4, e5, e6, e7, e8, e9, e10, e11, g7, g10, g11⟩ := pastsD_in (fun j hj => by
        obtain ⟨u, hu, hd⟩ := hc' j hj
        exact ⟨u, (hB.cell (p := ⟨b', off' + j, none⟩) hb').trans hu, hd.under hB⟩) hlt
      have HD : Hid (IsPast wr.drew (.agg #[.int .i64 (psAt l k).e.t, .int .i64 (psAt l k).e.s, .int .i64 (psAt l k).e.q, .int .i64 (psAt l k).e.d, .int .i64 (psAt l k).e.k, .int .i64 (psAt l k).e.v, .int .i64 (psAt l k).e.g, u7, .int .i64 (psAt l k).b.q, .int .i64 (psAt l k).b.d, u10, u11]) (psAt l k)) := IsPast.under (w := wr) ⟨u7, u10, u11, rfl, d7, d10, d11⟩ (Below.refl _ wr).drew
      have HG : Hid (IsPast wr.drew (.agg #[.int .i64 (psAt l k).e.t, .int .i64 (psAt l k).e.s, .int .i64 (psAt l k).e.q, .int .i64 (psAt l k).e.d, .int .i64 (psAt l k).e.k, .int .i64 (psAt l k).e.v, .int .i64 (psAt l k).e.g, v7, .int .i64 (psAt l k).b.q, .int .i64 (psAt l k).b.d, v10, v11]) (psAt l k)) := IsPast.under (w := wr) ⟨v7, v10, v11, rfl, g7, g10, g11⟩ (Below.refl _ wr).drew
      have HW : Hid ((psAt l k).wt ≤ 1048576) := Nat.le_trans (Ps.wt_le hlt) HS.out
      have hbr : b < wr.heap.size := Nat.lt_of_lt_of_le hb hB.size
      have hbr' : b' < wr.heap.size := Nat.lt_of_lt_of_le hb' hB.size
      clear hB hc hc' h h' d7 d10 d11 g7 g10 g11
      go_wp2_with fail
      go_region_held3 (fun W => W.cell? ⟨b, off + k * 12, none⟩ = some (.int .i64 (psAt l k).e.t) ∧ W.cell? ⟨b, off + k * 12 + 1, none⟩ = some (.int .i64 (psAt l k).e.s) ∧ W.cell? ⟨b, off + k * 12 + 2, none⟩ = some (.int .i64 (psAt l k).e.q) ∧ W.cell? ⟨b, off + k * 12 + 3, none⟩ = some (.int .i64 (psAt l k).e.d) ∧ W.cell? ⟨b, off + k * 12 + 4, none⟩ = some (.int .i64 (psAt l k).e.k) ∧ W.cell? ⟨b, off + k * 12 + 5, none⟩ = some (.int .i64 (psAt l k).e.v) ∧ W.cell? ⟨b, off + k * 12 + 6, none⟩ = some (.int .i64 (psAt l k).e.g) ∧ W.cell? ⟨b, off + k * 12 + 7, none⟩ = some (u7) ∧ W.cell? ⟨b, off + k * 12 + 8, none⟩ = some (.int .i64 (psAt l k).b.q) ∧ W.cell? ⟨b, off + k * 12 + 9, none⟩ = some (.int .i64 (psAt l k).b.d) ∧ W.cell? ⟨b, off + k * 12 + 10, none⟩ = some (u10) ∧ W.cell? ⟨b, off + k * 12 + 11, none⟩ = some (u11) ∧ W.cell? ⟨b', off' + k * 12, none⟩ = some (.int .i64 (psAt l k).e.t) ∧ W.cell? ⟨b', off' + k * 12 + 1, none⟩ = some (.int .i64 (psAt l k).e.s) ∧ W.cell? ⟨b', off' + k * 12 + 2, none⟩ = some (.int .i64 (psAt l k).e.q) ∧ W.cell? ⟨b', off' + k * 12 + 3, none⟩ = some (.int .i64 (psAt l k).e.d) ∧ W.cell? ⟨b', off' + k * 12 + 4, none⟩ = some (.int .i64 (psAt l k).e.k) ∧ W.cell? ⟨b', off' + k * 12 + 5, none⟩ = some (.int .i64 (psAt l k).e.v) ∧ W.cell? ⟨b', off' + k * 12 + 6, none⟩ = some (.int .i64 (psAt l k).e.g) ∧ W.cell? ⟨b', off' + k * 12 + 7, none⟩ = some (v7) ∧ W.cell? ⟨b', off' + k * 12 + 8, none⟩ = some (.int .i64 (psAt l k).b.q) ∧ W.cell? ⟨b', off' + k * 12 + 9, none⟩ = some (.int .i64 (psAt l k).b.d) ∧ W.cell? ⟨b', off' + k * 12 + 10, none⟩ = some (v10) ∧ W.cell? ⟨b', off' + k * 12 + 11, none⟩ = some (v11)) ((repeat' apply And.intro) <;> first | (go_keep; done) | (rw [hcA _ _ (by first | omega | (simp; omega) | simp [*])]; simp [*]; done))
        (first | (go_at_call 197; refine (eqPast_same _ _ (psAt l k) _ HW.out HD.out HG.out).mono ?_; rintro e w2 ⟨rfl, hb2⟩; obtain ⟨hcA, hfA⟩ := bcell hb2))
      clear hcA hfA
      go_wp2
      go_roundw
      case rel => exact ⟨k + 1, by omega, by go_num, HB.out.drew.trans (hb2.mono (by have := HB.out.size; simpa using this))⟩
      case measure => simp [intOf]; omega
    · clear hB h h'
      go_wp2
      go_ret
      exact ⟨rfl, HB.out⟩
end Go.Proofs.YtnlhcdchmgfipaaGreat

