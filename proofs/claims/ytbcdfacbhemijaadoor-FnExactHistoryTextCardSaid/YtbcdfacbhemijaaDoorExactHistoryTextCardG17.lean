/- TRow, HyD, VOpen, Open, OpenS, MOpen, HyO -/
import Derived.Test.YtbcdfacbhemijaaDoorExactHistoryTextCardG16
import Derived.Test.YtbcdfacbhemijaaDoorExactHistoryTextCardG00
import Derived.ProofKit
import Derived.ChangeOld
import Derived.OpenShut
import Derived.SizedLaws
import Derived.Test.YtbcdfacbhemijaaDoorRows
import Derived.Below
import Derived.Test.YtbcdfacbhemijaaDoorExactHistoryTextCardG06
/- Rows of numbers, events and emits: how much there is, held against each other, copied, marked, found again; each in one form. -/
namespace Go.Proofs.YtbcdfacbhemijaaDoor
open Go.RowKit
/- What is left of a size: -1, or all of n was taken off. -/
def SzR (n : Nat) (left r : Int) : Prop := r = -1 ∨ (0 ≤ r ∧ r + (n : Int) = left)
theorem szN_R (n : Nat) (left : Int) : SzR n left (szN n left) := by
  unfold szN
  split
  · exact .inl rfl
  · exact .inr ⟨by omega, by omega⟩
theorem ints_plain (l : List Int) : ∀ u ∈ intCells l, ∃ i, u = .int .i64 i := by
  intro u hu
  simp only [intCells, List.mem_map] at hu
  obtain ⟨i, _, rfl⟩ := hu
  exact ⟨i, rfl⟩
theorem evs_plain : ∀ (l : List Ev), ∀ u ∈ cellsL l, ∃ i, u = .int .i64 i
  | [], u, hu => by cases hu
  | e :: l, u, hu => by
    rcases List.mem_append.1 hu with h | h
    · simp [Ev.cs] at h
      rcases h with rfl | rfl | rfl | rfl | rfl | rfl | rfl <;> exact ⟨_, rfl⟩
    · exact evs_plain l u h
theorem ems_plain : ∀ (l : List Em), ∀ u ∈ cellsX l, ∃ i, u = .int .i64 i
  | [], u, hu => by cases hu
  | e :: l, u, hu => by
    rcases List.mem_append.1 hu with h | h
    · simp [Em.cs] at h
      rcases h with rfl | rfl | rfl <;> exact ⟨_, rfl⟩
    · exact ems_plain l u h
theorem IsD.len {w : World} {x : Value} {c n : Nat} {f : Nat → Dat} (h : IsD w x (.row c n f)) : ∃ a cap, x = .slice a n cap ∧ n ≤ maxLen := by
  obtain ⟨a, cap, rfl, h1, h2, _⟩ := h.parts
  exact ⟨a, cap, rfl, Nat.le_trans h1 h2⟩
set_option maxHeartbeats 400000 in
theorem szX_any (a : Option Addr) (n cap : Nat) (left : Int) (w : World) (hn : n ≤ maxLen) (h0 : 0 ≤ left) (h1 : left ≤ 1048576) :
    Calls Tryd.prog 40 #[.slice a n cap, .int .i64 left] w fun e w' => e = .returned (.int .i64 (szN n left)) ∧ w' = w := by
  unfold maxLen at hn
  by_cases hp : left - (n : Int) < 0
  · go_enter Tryd.func40, Tryd.ntmps40
    go_wp2
    go_ret
    exact ⟨ret_int (by unfold szN; rw [if_pos hp]), rfl⟩
  · go_enter Tryd.func40, Tryd.ntmps40
    go_wp2
    go_ret
    exact ⟨ret_int (by unfold szN; rw [if_neg (by omega)]), rfl⟩
set_option maxHeartbeats 400000 in
theorem toEmit_any (t l v : Int) (w : World) :
    Calls Tryd.prog 67 #[.agg #[.int .i64 t, .int .i64 l, .int .i64 v]] w fun e w' => e = .returned (.agg #[.int .i64 t, .int .i64 l, .int .i64 v]) ∧ Below w.heap.size w w' := by
  go_enter Tryd.func67, Tryd.ntmps67
  go_wp2
  refine bodyPost_ret (v := .agg #[.int .i64 t, .int .i64 l, .int .i64 v]) (by simp [results, Tryd.results67, go_sem]) rfl ⟨rfl, (((Below.refl _ w).alloc (Nat.le_refl _) _).alloc (by simp) _).alloc (by simp; omega) _⟩
theorem infoEm : (Tryd.prog.info? 78).map (fun i => (i.zero, i.size, i.bytes)) = some (some (.agg #[.int .i64 0, .int .i64 0, .int .i64 0]), 3, 24) := by kernel_rfl
/- A row that was just made. -/
theorem OwnD.made {B : Nat} {T : TypeId} {w1 : World} {zs : List Value} {n c : Nat} (h : w1.ownsRow B T c (.slice (some ⟨B, 0, none⟩) n n) n zs) (hz : zs.length = n * c) : OwnD w1 (fun k => B ≤ k ∧ k < w1.heap.size) (.slice (some ⟨B, 0, none⟩) n n) (flat c n zs) :=
  (RowF.of_owns hz h).own
/- As far as m cells a row holds f's data, then it is as it was made. -/
def toC (f : Nat → Dat) (zs : List Value) (m : Nat) : Nat → Dat := fun j => if j < m then f j else .val (zs.getD j (.int .i64 0))
theorem OwnD.made0 {B : Nat} {T : TypeId} {w1 : World} {zs : List Value} {n c : Nat} (f : Nat → Dat) (h : w1.ownsRow B T c (.slice (some ⟨B, 0, none⟩) n n) n zs) : ∃ zs, OwnD w1 (fun k => B ≤ k ∧ k < w1.heap.size) (.slice (some ⟨B, 0, none⟩) n n) (.row c n (toC f zs 0)) := by
  refine ⟨zs, (OwnD.made h h.1).congr (fun j _ => ?_)⟩
  simp [toC]
theorem OwnD.toAll {F : Nat → Prop} {w : World} {x : Value} {c n m : Nat} {f : Nat → Dat} {zs : List Value} (h : OwnD w F x (.row c n (toC f zs m))) (hm : m = n * c) : OwnD w F x (.row c n f) :=
  h.congr (fun j hj => by simp [toC, hm, hj])
theorem upd_toC (f : Nat → Dat) (zs : List Value) (m : Nat) : upd (toC f zs m) m (f m) = toC f zs (m + 1) := by
  funext j
  simp only [upd, toC]
  by_cases e : j = m
  · subst e; rw [if_pos rfl, if_pos (by omega)]
  · rw [if_neg e]
    by_cases e2 : j < m
    · rw [if_pos e2, if_pos (by omega)]
    · rw [if_neg e2, if_neg (by omega)]
theorem OwnD.fill_val {F : Nat → Prop} {w : World} {g n cap c m : Nat} {f : Nat → Dat} {zs : List Value} (h : OwnD w F (.slice (some ⟨g, 0, none⟩) n cap) (.row c n (toC f zs m))) (hm : m < n * c) {u : Value} (hu : f m = .val u) :
    OwnD (w.setCell ⟨g, m, none⟩ u) F (.slice (some ⟨g, 0, none⟩) n cap) (.row c n (toC f zs (m + 1))) := by
  have := h.put_val hm u
  rwa [← hu, upd_toC] at this
theorem OwnD.fill {F K : Nat → Prop} {w : World} {g n cap c m : Nat} {f : Nat → Dat} {zs : List Value} (h : OwnD w F (.slice (some ⟨g, 0, none⟩) n cap) (.row c n (toC f zs m))) (hm : m < n * c) {u : Value} (hu : OwnD w K u (f m)) (hK : ∀ k, K k → ¬ F k) :
    OwnD (w.setCell ⟨g, m, none⟩ u) (fun k => F k ∨ K k) (.slice (some ⟨g, 0, none⟩) n cap) (.row c n (toC f zs (m + 1))) := by
  have := h.put hm hu hK
  rwa [upd_toC] at this
theorem emsD_get (l : List Em) (j : Nat) : (fun j => Dat.val ((cellsX l).getD j (.int .i64 0))) j = .val ((cellsX l).getD j (.int .i64 0)) := rfl
theorem ems_at {l : List Em} {k : Nat} (h : k < l.length) : (cellsX l).getD (k * 3) (.int .i64 0) = .int .i64 (xAt l k).t ∧ (cellsX l).getD (k * 3 + 1) (.int .i64 0) = .int .i64 (xAt l k).l ∧ (cellsX l).getD (k * 3 + 2) (.int .i64 0) = .int .i64 (xAt l k).v :=
  ⟨getD_of (cellsX_get l k 0 h (by omega)), getD_of (cellsX_get l k 1 h (by omega)), getD_of (cellsX_get l k 2 h (by omega))⟩
theorem made_length {w : World} {B : Nat} {T : TypeId} {c n : Nat} {v : Value} {zs : List Value} (h : w.ownsRow B T c v n zs) : zs.length = n * c := h.1
set_option maxHeartbeats 2000000 in
theorem toX_any (x : Value) (l : List Em) (w : World) (hl : l.length ≤ 1048576) (h : IsX w x l) :
    Calls Tryd.prog 43 #[x] w fun e w' => e = .returned (sl w.heap.size l.length) ∧ Below w.heap.size w w' ∧ OwnD w' (fun k => w.heap.size ≤ k ∧ k < w'.heap.size) (sl w.heap.size l.length) (emsD l) := by
  obtain ⟨a, cap, rfl, h1, h2, h⟩ := h
  have hp : (0 : Int) ≤ (l.length : Int) := by omega
  obtain ⟨i0, hi, hz0, hz1, hz2⟩ := info_parts infoEm
  go_enter Tryd.func43, Tryd.ntmps43
  go_wp2_with (at_make; refine wpList_make_full _ rfl _ _ 45 rfl w.heap.size 78 i0 _ 3 Tryd.underlying45 hi hz0 hz1 .i64 .i64 l.length l.length l.length rfl rfl rfl rfl (by rw [hz2]; omega) (by unfold maxLen; omega) (Nat.le_refl _) ?_; intro w1 hown hgrow)
  have hB1 : Hid (Below w.heap.size w w1) := (Below.refl _ _).grown hgrow (Nat.le_refl _) (fun k e => by cases e)
  obtain ⟨zs, hR0⟩ := OwnD.made0 (fun j => .val ((cellsX l).getD j (.int .i64 0))) hown
  have hR1 : Hid (OwnD w1 (fun k => w.heap.size ≤ k ∧ k < w1.heap.size) (sl w.heap.size l.length) (.row 3 l.length (toC (fun j => .val ((cellsX l).getD j (.int .i64 0))) zs (0 * 3)))) := hR0
  clear hown hgrow hi hz0 hz1 hz2 hR0
  go_loopw [4] (fun i wr => ∃ k : Nat, k ≤ l.length ∧ i = .int .i64 k ∧ Below w.heap.size w wr ∧ OwnD wr (fun k => w.heap.size ≤ k ∧ k < wr.heap.size) (sl w.heap.size l.length) (.row 3 l.length (toC (fun j => .val ((cellsX l).getD j (.int .i64 0))) zs (k * 3)))) (fun i _ => l.length - (intOf i).toNat)
  case atStart => exact ⟨0, Nat.zero_le _, rfl, hB1.out, hR1.out⟩
  case round =>
    obtain ⟨k, hk, rfl, hB, hR⟩ := hrel
    have HB : Hid (Below w.heap.size w wr) := hB
    have HR : Hid (OwnD wr (fun k => w.heap.size ≤ k ∧ k < wr.heap.size) (sl w.heap.size l.length) (.row 3 l.length (toC (fun j => .val ((cellsX l).getD j (.int .i64 0))) zs (k * 3)))) := hR
    clear hR
    by_cases hlt : k < l.length
    · obtain ⟨b, off, rfl, hb, hc⟩ := h.resolve_left (by intro e; subst e; simp at hlt)
      obtain ⟨f0, f1, f2⟩ := (hc k hlt).below hB hb
      have hg : w.heap.size < wr.heap.size := (HR.out.lt (by omega)).1
      clear hB hB1 hR1 h hc
      go_wp2_with (go_at_call 67; refine (toEmit_any _ _ _ _).mono ?_; rintro e w2 ⟨rfl, hb2⟩; have HB2 : Hid (Below wr.heap.size wr w2) := hb2; have HR2 : Hid (OwnD w2 (fun k => w.heap.size ≤ k ∧ k < wr.heap.size) (sl w.heap.size l.length) (.row 3 l.length (toC (fun j => .val ((cellsX l).getD j (.int .i64 0))) zs (k * 3)))) := HR.out.under hb2; obtain ⟨c0, _, g0, z0, _⟩ := HR2.out.step (j := k * 3) (by omega); obtain ⟨c1, _, g1, z1, _⟩ := HR2.out.step (j := k * 3 + 1) (by omega); obtain ⟨c2, _, g2, z2, _⟩ := HR2.out.step (j := k * 3 + 2) (by omega); clear hb2)
      go_roundw
      case rel =>
        obtain ⟨e0, e1, e2⟩ := ems_at hlt
        refine ⟨k + 1, by omega, by go_num, (((HB.out.trans (HB2.out.mono (by omega))).setCell (p := ⟨w.heap.size, _, none⟩) (Nat.le_refl _) _).setCell (p := ⟨w.heap.size, _, none⟩) (Nat.le_refl _) _).setCell (p := ⟨w.heap.size, _, none⟩) (Nat.le_refl _) _, ?_⟩
        rw [show (k + 1) * 3 = k * 3 + 1 + 1 + 1 from by omega]
        exact (((HR2.out.fill_val (m := k * 3) (by omega) (by rw [e0])).fill_val (m := k * 3 + 1) (by omega) (by rw [e1])).fill_val (m := k * 3 + 2) (by omega) (by rw [e2])).mono (fun b hb => ⟨hb.1, by have := HB2.out.size; simp; omega⟩)
      case measure => simp [intOf]; omega
    · clear hB hB1 hR1 h
      go_wp2
      go_ret
      obtain rfl : k = l.length := by omega
      exact ⟨rfl, HB.out, HR.out.toAll rfl⟩

theorem ints_wt (l : List Int) : (intsD l).wt = l.length := flat_wt _ _ _
theorem ints_cnt (l : List Int) : (intsD l).cnt = l.length * 1 := flat_cnt _ _ _
theorem ints_thin (l : List Int) : (intsD l).thin := flat_thin (by omega)
theorem sz_ints (x : Value) (l : List Int) (left : Int) (w : World) (h0 : 0 ≤ left) (h1 : left ≤ 1048576) (h : IsD w x (intsD l)) :
    Calls Tryd.prog 20 #[x, .int .i64 left] w fun e w' => (∃ r, e = .returned (.int .i64 r) ∧ SzR (intsD l).wt left r) ∧ Below w.heap.size w w' := by
  obtain ⟨a, cap, rfl, hn⟩ := IsD.len (c := 1) (n := l.length) h
  refine (szI_any a l.length cap left w hn h0 h1).mono ?_
  rintro e w' ⟨rfl, rfl⟩
  exact ⟨⟨_, rfl, by rw [ints_wt]; exact szN_R _ _⟩, Below.refl _ _⟩
theorem eq_ints (x y : Value) (l : List Int) (w : World) (hl : l.length ≤ 1048576) (hx : IsD w x (intsD l)) (hy : IsD w y (intsD l)) :
    Calls Tryd.prog 34 #[x, y] w fun e w' => e = .returned (.bool true) ∧ Below w.heap.size w w' :=
  eqI_same x y l w (by omega) hx.isI hy.isI
theorem mark_ints {F : Nat → Prop} {x : Value} {l : List Int} {w : World} (z : Int) (hn : l.length ≤ 1048577) (hz0 : 0 ≤ z) (hz1 : z ≤ 1073741824) (h : OwnD w F x (intsD l)) :
    Calls Tryd.prog 37 #[x, .int .i64 z] w fun e w' => e = .returned (.int .i64 (z + ((intsD l).cnt : Int))) ∧ OwnD w' F x ((intsD l).mark z) ∧ Turns F w w' := by
  refine (markIF z hn hz0 hz1 (OwnD.rowF (c := 1) h (by rw [intCells_length, Nat.mul_one]))).mono ?_
  rintro e w' ⟨rfl, hr, ht⟩
  refine ⟨ret_int ?_, flat_marked hr.own (ints_plain l), ht⟩
  rw [ints_cnt]
  omega
theorem evs_wt (l : List Ev) : (evsD l).wt = l.length := flat_wt _ _ _
theorem evs_cnt (l : List Ev) : (evsD l).cnt = l.length * 7 := flat_cnt _ _ _
theorem evs_thin (l : List Ev) : (evsD l).thin := flat_thin (by omega)
theorem sz_evs (x : Value) (l : List Ev) (left : Int) (w : World) (h0 : 0 ≤ left) (h1 : left ≤ 1048576) (h : IsD w x (evsD l)) :
    Calls Tryd.prog 22 #[x, .int .i64 left] w fun e w' => (∃ r, e = .returned (.int .i64 r) ∧ SzR (evsD l).wt left r) ∧ Below w.heap.size w w' := by
  obtain ⟨a, cap, rfl, hn⟩ := IsD.len (c := 7) (n := l.length) h
  refine (szE_any a l.length cap left w hn h0 h1).mono ?_
  rintro e w' ⟨rfl, rfl⟩
  exact ⟨⟨_, rfl, by rw [evs_wt]; exact szN_R _ _⟩, Below.refl _ _⟩
theorem eq_evs (x y : Value) (l : List Ev) (w : World) (hl : l.length ≤ 1048576) (hx : IsD w x (evsD l)) (hy : IsD w y (evsD l)) :
    Calls Tryd.prog 36 #[x, y] w fun e w' => e = .returned (.bool true) ∧ Below w.heap.size w w' :=
  eqS_same x y l w hl hx.isEvs hy.isEvs
theorem to_evs (x : Value) (l : List Ev) (w : World) (hl : l.length ≤ 1048576) (h : IsD w x (evsD l)) :
    Calls Tryd.prog 28 #[x] w fun e w' => ∃ y, e = .returned y ∧ Below w.heap.size w w' ∧ OwnD w' (fun k => w.heap.size ≤ k ∧ k < w'.heap.size) y (evsD l) := by
  refine (toEventS_any x l w hl h.isEvs).mono ?_
  rintro e w' ⟨rfl, hb, hr⟩
  exact ⟨_, rfl, hb, ((hr.rowF (by unfold maxLen; omega)).mono (fun k e => by subst e; exact ⟨Nat.le_refl _, hr.1⟩)).own⟩
theorem mark_evs {F : Nat → Prop} {x : Value} {l : List Ev} {w : World} (z : Int) (hn : l.length ≤ 1048577) (hz0 : 0 ≤ z) (hz1 : z ≤ 1073741824) (h : OwnD w F x (evsD l)) :
    Calls Tryd.prog 39 #[x, .int .i64 z] w fun e w' => e = .returned (.int .i64 (z + ((evsD l).cnt : Int))) ∧ OwnD w' F x ((evsD l).mark z) ∧ Turns F w w' := by
  refine (markEF z hn hz0 hz1 (OwnD.rowF (c := 7) h (cellsL_length l))).mono ?_
  rintro e w' ⟨rfl, hr, ht⟩
  refine ⟨ret_int ?_, flat_marked hr.own (evs_plain l), ht⟩
  rw [evs_cnt]
  omega
theorem ems_wt (l : List Em) : (emsD l).wt = l.length := flat_wt _ _ _
theorem ems_cnt (l : List Em) : (emsD l).cnt = l.length * 3 := flat_cnt _ _ _
theorem ems_thin (l : List Em) : (emsD l).thin := flat_thin (by omega)
theorem sz_ems (x : Value) (l : List Em) (left : Int) (w : World) (h0 : 0 ≤ left) (h1 : left ≤ 1048576) (h : IsD w x (emsD l)) :
    Calls Tryd.prog 40 #[x, .int .i64 left] w fun e w' => (∃ r, e = .returned (.int .i64 r) ∧ SzR (emsD l).wt left r) ∧ Below w.heap.size w w' := by
  obtain ⟨a, cap, rfl, hn⟩ := IsD.len (c := 3) (n := l.length) h
  refine (szX_any a l.length cap left w hn h0 h1).mono ?_
  rintro e w' ⟨rfl, rfl⟩
  exact ⟨⟨_, rfl, by rw [ems_wt]; exact szN_R _ _⟩, Below.refl _ _⟩
theorem eq_ems (x y : Value) (l : List Em) (w : World) (hl : l.length ≤ 1048576) (hx : IsD w x (emsD l)) (hy : IsD w y (emsD l)) :
    Calls Tryd.prog 47 #[x, y] w fun e w' => e = .returned (.bool true) ∧ Below w.heap.size w w' :=
  eqX_same x y l w hl hx.isX hy.isX
theorem to_ems (x : Value) (l : List Em) (w : World) (hl : l.length ≤ 1048576) (h : IsD w x (emsD l)) :
    Calls Tryd.prog 43 #[x] w fun e w' => ∃ y, e = .returned y ∧ Below w.heap.size w w' ∧ OwnD w' (fun k => w.heap.size ≤ k ∧ k < w'.heap.size) y (emsD l) := by
  refine (toX_any x l w hl h.isX).mono ?_
  rintro e w' ⟨rfl, hb, hr⟩
  exact ⟨_, rfl, hb, hr⟩
theorem mark_ems {F : Nat → Prop} {x : Value} {l : List Em} {w : World} (z : Int) (hn : l.length ≤ 1048577) (hz0 : 0 ≤ z) (hz1 : z ≤ 1073741824) (h : OwnD w F x (emsD l)) :
    Calls Tryd.prog 48 #[x, .int .i64 z] w fun e w' => e = .returned (.int .i64 (z + ((emsD l).cnt : Int))) ∧ OwnD w' F x ((emsD l).mark z) ∧ Turns F w w' := by
  refine (markXF z hn hz0 hz1 (OwnD.rowF (c := 3) h (cellsX_length l))).mono ?_
  rintro e w' ⟨rfl, hr, ht⟩
  refine ⟨ret_int ?_, flat_marked hr.own (ems_plain l), ht⟩
  rw [ems_cnt]
  omega
end Go.Proofs.YtbcdfacbhemijaaDoor

/- A history, as plain values and as data. -/
namespace Go.Proofs.YtbcdfacbhemijaaDoor
open Go.RowKit
theorem sumL_add (L : Nat → Nat) (a : Nat) : ∀ b, sumL L (a + b) = sumL L a + sumL (fun i => L (a + i)) b
  | 0 => by simp [sumL]
  | b + 1 => by
    rw [← Nat.add_assoc]
    simp only [sumL]
    rw [sumL_add L a b]
    omega
theorem sumL_grid {c : Nat} {h : Nat → Nat → Nat} : ∀ n, sumL (fun j => h (j / c) (j % c)) (n * c) = sumL (fun i => sumL (fun r => h i r) c) n
  | 0 => by simp [sumL]
  | n + 1 => by
    rw [Nat.succ_mul, sumL_add, sumL_grid n]
    simp only [sumL]
    congr 1
    refine sumL_congr (fun r hr => ?_)
    rw [Nat.mul_comm n c, Nat.mul_add_div (by omega), Nat.div_eq_of_lt hr, Nat.add_zero, Nat.mul_add_mod, Nat.mod_eq_of_lt hr]
theorem sumL_mem (L : Nat → Nat) {n i : Nat} (h : i < n) : L i ≤ sumL L n := by
  have h1 := sumL_mono L (show i + 1 ≤ n from h)
  simp only [sumL] at h1
  omega
structure Hy where
  e : List Ev
  x : List Em
  a : Int
  f : Bool
def hyAt (l : List Hy) (i : Nat) : Hy := l.getD i ⟨[], [], 0, false⟩
def Hy.cell (p : Hy) : Nat → Dat
  | 0 => evsD p.e
  | 1 => emsD p.x
  | 2 => Dat.val (.int .i64 p.a)
  | 3 => Dat.val (.bool p.f)
  | _ => .val (.int .i64 0)
def Hy.wt (p : Hy) : Nat := (evsD p.e).wt + (emsD p.x).wt
def hysD_f (l : List Hy) : Nat → Dat := fun j => (hyAt l (j / 4)).cell (j % 4)
def hysD (l : List Hy) : Dat := .row 4 l.length (hysD_f l)
theorem hysD_at (l : List Hy) (i : Nat) {r : Nat} (hr : r < 4) : hysD_f l (i * 4 + r) = (hyAt l i).cell r := by
  show (hyAt l ((i * 4 + r) / 4)).cell ((i * 4 + r) % 4) = _
  rw [show (i * 4 + r) / 4 = i from by omega, show (i * 4 + r) % 4 = r from by omega]
theorem hysD_wt (l : List Hy) : (hysD l).wt = l.length + sumL (fun i => (hyAt l i).wt) l.length := by
  show l.length + sumL (fun j => ((hyAt l (j / 4)).cell (j % 4)).wt) (l.length * 4) = _
  rw [sumL_grid (h := fun i r => ((hyAt l i).cell r).wt)]
  congr 1
  refine sumL_congr (fun i _ => ?_)
  simp only [sumL, Hy.cell, Hy.wt, Dat.wt, Nat.zero_add, Nat.add_zero]
theorem Hy.thin (p : Hy) (r : Nat) : (p.cell r).thin := by
  unfold Hy.cell
  split
  · exact evs_thin _
  · exact ems_thin _
  · trivial
  · trivial
  · trivial
theorem hys_thin (l : List Hy) : (hysD l).thin := ⟨by omega, fun j => Hy.thin (hyAt l (j / 4)) (j % 4)⟩
theorem Hy.wt_le {l : List Hy} {i : Nat} (h : i < l.length) : (hyAt l i).wt ≤ (hysD l).wt := by
  rw [hysD_wt]
  have := sumL_mem (fun i => (hyAt l i).wt) h
  omega
def Hy.cnt (p : Hy) : Nat := (evsD p.e).cnt + (emsD p.x).cnt + 1 + 1
theorem hysD_cnt (l : List Hy) : (hysD l).cnt = sumL (fun i => (hyAt l i).cnt) l.length := by
  show sumL (fun j => ((hyAt l (j / 4)).cell (j % 4)).cnt) (l.length * 4) = _
  rw [sumL_grid (h := fun i r => ((hyAt l i).cell r).cnt)]
  refine sumL_congr (fun i _ => ?_)
  simp only [sumL, Hy.cell, Hy.cnt, Dat.cnt, Nat.zero_add]
def IsHistory (w : World) (x : Value) (p : Hy) : Prop := ∃ u0 u1, x = .agg #[u0, u1, .int .i64 p.a, .bool p.f] ∧ IsD w u0 (evsD p.e) ∧ IsD w u1 (emsD p.x)
theorem IsHistory.under {w w' : World} {x : Value} {p : Hy} (h : IsHistory w x p) (hb : Below w.heap.size w w') : IsHistory w' x p := by
  obtain ⟨u0, u1, rfl, h0, h1⟩ := h
  exact ⟨u0, u1, rfl, h0.under hb, h1.under hb⟩
theorem hysD_in {w : World} {b off n : Nat} {l : List Hy} (h : ∀ j, j < n * 4 → ∃ u, w.cell? ⟨b, off + j, none⟩ = some u ∧ IsD w u ((hyAt l (j / 4)).cell (j % 4))) {i : Nat} (hi : i < n) :
    ∃ u0 u1, w.cell? ⟨b, off + i * 4, none⟩ = some (u0) ∧ w.cell? ⟨b, off + i * 4 + 1, none⟩ = some (u1) ∧ w.cell? ⟨b, off + i * 4 + 2, none⟩ = some (.int .i64 (hyAt l i).a) ∧ w.cell? ⟨b, off + i * 4 + 3, none⟩ = some (.bool (hyAt l i).f) ∧ IsD w u0 (evsD (hyAt l i).e) ∧ IsD w u1 (emsD (hyAt l i).x) := by
  have hh : ∀ r, r < 4 → ∃ u, w.cell? ⟨b, off + i * 4 + r, none⟩ = some u ∧ IsD w u ((hyAt l i).cell r) := fun r hr => by
    have := h (i * 4 + r) (by omega)
    rw [show (i * 4 + r) / 4 = i from by omega, show (i * 4 + r) % 4 = r from by omega, ← Nat.add_assoc] at this
    exact this
  obtain ⟨u0, c0, d0⟩ := hh 0 (by omega)
  obtain ⟨u1, c1, d1⟩ := hh 1 (by omega)
  obtain ⟨u2, c2, d2⟩ := hh 2 (by omega)
  obtain ⟨u3, c3, d3⟩ := hh 3 (by omega)
  obtain rfl := d2.val_eq
  obtain rfl := d3.val_eq
  exact ⟨u0, u1, c0, c1, c2, c3, d0, d1⟩
end Go.Proofs.YtbcdfacbhemijaaDoor

/- How a list of numbers that came in is read. -/
namespace Go.Proofs.YtbcdfacbhemijaaDoor
open Go.ChangeShapes Go.WideShapes Go.ChangeAt Go.RowKit

theorem own : ownKnob Tryd.prog.godebug = none := by kernel_rfl
theorem laidOut : laidOutB Tryd.prog = true := by kernel_rfl
theorem cells3 : Tryd.prog.cellsOf 3 = 1 := by kernel_rfl
theorem add_plain (b off n : Nat) : (⟨b, off, none⟩ : Addr).add n = ⟨b, off + n, none⟩ := by
  unfold Addr.add
  split <;> simp_all
theorem ints_list {w : World} {b off : Nat} : ∀ n, (∀ i, i < n → ∃ z : Int, w.cell? ⟨b, off + i, none⟩ = some (.int .i64 z)) → ∃ l : List Int, l.length = n ∧ ∀ i, i < n → w.cell? ⟨b, off + i, none⟩ = some (.int .i64 (intAt l i))
  | 0, _ => ⟨[], rfl, fun i hi => by omega⟩
  | n + 1, h => by
    obtain ⟨l, hl, hi⟩ := ints_list n (fun i hi => h i (by omega))
    obtain ⟨e, he⟩ := h n (by omega)
    refine ⟨l ++ [e], by simp [hl], fun i hi' => ?_⟩
    by_cases hin : i < n
    · have : intAt (l ++ [e]) i = intAt l i := by unfold intAt; simp [List.getElem?_append_left (by omega : i < l.length)]
      rw [this]; exact hi i hin
    · have : intAt (l ++ [e]) i = e := by unfold intAt; simp [show i = l.length by omega]
      rw [this, show i = n by omega]; exact he
set_option maxRecDepth 100000 in
theorem open_ints' {H : Type} {enc : TypeId × Value → H} {w : World} {b0 : Nat} {spare : Nat → Bool} {held : Bool} {r : Reach} {v : Value} {d : DataW H} {p : List MemPlace}
    (hv : Value.okWide Tryd.prog w r b0 22 v) (h : DataW.Trod enc Tryd.prog w 0 spare held 22 v d p) : ∃ l : List Int, IsI w v l := by
  obtain ⟨a0, len, cap, rfl⟩ := okWide_slice Tryd.underlying22 hv
  obtain ⟨fuel, hf⟩ := h
  rcases DataW.trod_slice Tryd.underlying22 hf with ⟨hcs, _⟩ | ⟨a, len', cap', elems, rest, n, _, hcs, _, hb, hl, hm, hlen, hel, _, _⟩
  · simp [Value.cells] at hcs
    obtain ⟨rfl, rfl, rfl⟩ := hcs
    exact ⟨[], _, _, rfl, Nat.le_refl _, by unfold maxLen; omega, .inl rfl⟩
  · simp [Value.cells] at hcs
    obtain ⟨rfl, rfl, rfl⟩ := hcs
    by_cases h0 : len = 0
    · subst h0
      exact ⟨[], _, _, rfl, hl, hm, .inl rfl⟩
    · obtain ⟨b, off, spot⟩ := a
      have hs : spot = none := by
        have h1 := hel 0 (by omega)
        rw [cells3, List.getElem?_eq_getElem (by omega)] at h1
        obtain ⟨cs, hc, ht⟩ := Option.bind_eq_some_iff.1 h1
        obtain ⟨t, rfl, _⟩ := DataW.trod_int Tryd.underlying3 ht
        have c0 := (World.cells?_some hc).2.2 0 (by omega)
        simpa [Addr.add] using World.cell?_spot c0
      subst hs
      have each : ∀ i, i < len → ∃ z : Int, w.cell? ⟨b, off + i, none⟩ = some (.int .i64 z) ∧ b < w.heap.size := by
        intro i hi
        have h1 := hel i hi
        rw [cells3, List.getElem?_eq_getElem (by omega), add_plain] at h1
        obtain ⟨cs, hc, ht⟩ := Option.bind_eq_some_iff.1 h1
        obtain ⟨t, rfl, _, hw⟩ := DataW.trod_int Tryd.underlying3 ht
        have hblk : b < w.heap.size := World.cells?_block hc (by omega)
        obtain ⟨_, _, hcell⟩ := World.cells?_some hc
        have h2 := hcell 0 (by omega)
        simp only [add_plain] at h2
        exact ⟨t, by simpa using h2, hblk⟩
      obtain ⟨_, _, hblk⟩ := each 0 (by omega)
      obtain ⟨l, rfl, hi⟩ := ints_list (w := w) (b := b) (off := off) len (fun i hi => by
        obtain ⟨e, he, _⟩ := each i hi
        exact ⟨e, he⟩)
      exact ⟨l, _, _, rfl, hl, hm, .inr ⟨b, off, rfl, hblk, hi⟩⟩
end Go.Proofs.YtbcdfacbhemijaaDoor

/- How an event that came in is read: seven integers. -/
namespace Go.Proofs.YtbcdfacbhemijaaDoor
open Go.ChangeShapes Go.WideShapes Go.ChangeAt Go.RowKit

theorem cells23 : Tryd.prog.cellsOf 91 = 7 := by kernel_rfl

def wfI (x : Int) : Prop := (Lit.int .i64 x).wf = true

theorem list7 {α : Type} {l : List α} (h : l.length = 7) : ∃ a b c d e f g, l = [a, b, c, d, e, f, g] := by
  match l, h with
  | [a, b, c, d, e, f, g], _ => exact ⟨a, b, c, d, e, f, g, rfl⟩

set_option maxRecDepth 100000 in
theorem trod_ev {H : Type} {enc : TypeId × Value → H} {w : World} {base : Nat} {spare : Nat → Bool} {held : Bool} {fuel : Nat} {cs : List Value} {x : DataW H × List MemPlace}
    (h : DataW.trod enc Tryd.prog w base spare held fuel 91 cs = some x) :
    ∃ t s q d k v g : Int, cs = [.int .i64 t, .int .i64 s, .int .i64 q, .int .i64 d, .int .i64 k, .int .i64 v, .int .i64 g] ∧ wfI t ∧ wfI s ∧ wfI q ∧ wfI d ∧ wfI k ∧ wfI v ∧ wfI g := by
  obtain ⟨xs, n, _, rfl, hl, hlen, hf⟩ := DataW.trod_struct Tryd.underlying91 h
  rw [cells23] at hl
  obtain ⟨c0, c1, c2, c3, c4, c5, c6, rfl⟩ := list7 hl
  have hx : xs.length = 7 := by simpa using hlen
  obtain ⟨y0, y1, y2, y3, y4, y5, y6, rfl⟩ := list7 hx
  have h0 := hf 0 _ rfl
  have h1 := hf 1 _ rfl
  have h2 := hf 2 _ rfl
  have h3 := hf 3 _ rfl
  have h4 := hf 4 _ rfl
  have h5 := hf 5 _ rfl
  have h6 := hf 6 _ rfl
  obtain ⟨a0, e0, _, w0⟩ := DataW.trod_int Tryd.underlying3 h0
  obtain ⟨a1, e1, _, w1⟩ := DataW.trod_int Tryd.underlying3 h1
  obtain ⟨a2, e2, _, w2⟩ := DataW.trod_int Tryd.underlying3 h2
  obtain ⟨a3, e3, _, w3⟩ := DataW.trod_int Tryd.underlying3 h3
  obtain ⟨a4, e4, _, w4⟩ := DataW.trod_int Tryd.underlying3 h4
  obtain ⟨a5, e5, _, w5⟩ := DataW.trod_int Tryd.underlying3 h5
  obtain ⟨a6, e6, _, w6⟩ := DataW.trod_int Tryd.underlying3 h6
  simp [cells3] at e0 e1 e2 e3 e4 e5 e6
  subst e0 e1 e2 e3 e4 e5 e6
  exact ⟨a0, a1, a2, a3, a4, a5, a6, rfl, w0, w1, w2, w3, w4, w5, w6⟩

set_option maxRecDepth 100000 in
theorem open_ev {H : Type} {enc : TypeId × Value → H} {w : World} {base b0 : Nat} {spare : Nat → Bool} {held : Bool} {r : Reach} {v : Value} {d : DataW H} {p : List MemPlace}
    (hv : Value.okWide Tryd.prog w r b0 91 v) (h : DataW.Trod enc Tryd.prog w base spare held 91 v d p) :
    ∃ t s q d k z g : Int, v = .agg #[.int .i64 t, .int .i64 s, .int .i64 q, .int .i64 d, .int .i64 k, .int .i64 z, .int .i64 g] ∧ wfI t ∧ wfI s ∧ wfI q ∧ wfI d ∧ wfI k ∧ wfI z ∧ wfI g := by
  obtain ⟨cs, rfl, hsz⟩ := okWide_struct Tryd.underlying91 hv
  obtain ⟨fuel, hf⟩ := h
  obtain ⟨t, s, q, d, k, z, g, e, hw⟩ := trod_ev hf
  refine ⟨t, s, q, d, k, z, g, ?_, hw⟩
  rw [show cs = #[.int .i64 t, .int .i64 s, .int .i64 q, .int .i64 d, .int .i64 k, .int .i64 z, .int .i64 g] from by
    apply Array.toList_inj.1
    simpa [Value.cells] using e]
end Go.Proofs.YtbcdfacbhemijaaDoor

/- How a list of events that came in is read. -/
namespace Go.Proofs.YtbcdfacbhemijaaDoor
open Go.ChangeShapes Go.WideShapes Go.ChangeAt Go.RowKit

theorem evs_list {w : World} {b off : Nat} : ∀ n, (∀ i, i < n → ∃ e : Ev, Ev.In w b (off + i * 7) e) → ∃ l : List Ev, l.length = n ∧ ∀ i, i < n → Ev.In w b (off + i * 7) (evAt l i)
  | 0, _ => ⟨[], rfl, fun i hi => by omega⟩
  | n + 1, h => by
    obtain ⟨l, hl, hi⟩ := evs_list n (fun i hi => h i (by omega))
    obtain ⟨e, he⟩ := h n (by omega)
    refine ⟨l ++ [e], by simp [hl], fun i hi' => ?_⟩
    by_cases hin : i < n
    · have : evAt (l ++ [e]) i = evAt l i := by unfold evAt; simp [List.getElem?_append_left (by omega : i < l.length)]
      rw [this]; exact hi i hin
    · have : evAt (l ++ [e]) i = e := by unfold evAt; simp [show i = l.length by omega]
      rw [this, show i = n by omega]; exact he

set_option maxRecDepth 100000 in
theorem open_evs {H : Type} {enc : TypeId × Value → H} {w : World} {b0 : Nat} {spare : Nat → Bool} {held : Bool} {r : Reach} {v : Value} {d : DataW H} {p : List MemPlace}
    (hv : Value.okWide Tryd.prog w r b0 24 v) (h : DataW.Trod enc Tryd.prog w 0 spare held 24 v d p) : ∃ l : List Ev, IsEvs w v l := by
  obtain ⟨a0, len, cap, rfl⟩ := okWide_slice Tryd.underlying24 hv
  obtain ⟨fuel, hf⟩ := h
  rcases DataW.trod_slice Tryd.underlying24 hf with ⟨hcs, _⟩ | ⟨a, len', cap', elems, rest, n, _, hcs, _, hb, hl, hm, hlen, hel, _, _⟩
  · simp [Value.cells] at hcs
    obtain ⟨rfl, rfl, rfl⟩ := hcs
    exact ⟨[], _, _, rfl, Nat.le_refl _, by unfold maxLen; omega, .inl rfl⟩
  · simp [Value.cells] at hcs
    obtain ⟨rfl, rfl, rfl⟩ := hcs
    by_cases h0 : len = 0
    · subst h0
      exact ⟨[], _, _, rfl, hl, hm, .inl rfl⟩
    · obtain ⟨b, off, spot⟩ := a
      have hs : spot = none := by
        have h1 := hel 0 (by omega)
        rw [cells23, List.getElem?_eq_getElem (by omega)] at h1
        obtain ⟨cs, hc, ht⟩ := Option.bind_eq_some_iff.1 h1
        obtain ⟨t, s, q, d, k, v, g, rfl, _⟩ := trod_ev ht
        have c0 := (World.cells?_some hc).2.2 0 (by omega)
        simpa [Addr.add] using World.cell?_spot c0
      subst hs
      have each : ∀ i, i < len → ∃ e : Ev, Ev.In w b (off + i * 7) e ∧ b < w.heap.size := by
        intro i hi
        have h1 := hel i hi
        rw [cells23, List.getElem?_eq_getElem (by omega), add_plain] at h1
        obtain ⟨cs, hc, ht⟩ := Option.bind_eq_some_iff.1 h1
        obtain ⟨t, s, q, d, k, v, g, rfl, _⟩ := trod_ev ht
        have hblk : b < w.heap.size := World.cells?_block hc (by omega)
        obtain ⟨_, _, hcell⟩ := World.cells?_some hc
        simp only [add_plain] at hcell
        exact ⟨⟨t, s, q, d, k, v, g⟩, ⟨hcell 0 (by omega), hcell 1 (by omega), hcell 2 (by omega), hcell 3 (by omega), hcell 4 (by omega), hcell 5 (by omega), hcell 6 (by omega)⟩, hblk⟩
      obtain ⟨_, _, hblk⟩ := each 0 (by omega)
      obtain ⟨l, rfl, hi⟩ := evs_list (w := w) (b := b) (off := off) len (fun i hi => by
        obtain ⟨e, he, _⟩ := each i hi
        exact ⟨e, he⟩)
      exact ⟨l, _, _, rfl, hl, hm, .inr ⟨b, off, rfl, hblk, hi⟩⟩
end Go.Proofs.YtbcdfacbhemijaaDoor

/- How a model that came in is read. -/
namespace Go.Proofs.YtbcdfacbhemijaaDoor
open Go.ChangeShapes Go.WideShapes Go.ChangeAt Go.RowKit
theorem cellsOp : Tryd.prog.cellsOf 116 = 4 := by kernel_rfl
theorem cellsRow : Tryd.prog.cellsOf 87 = 1 := by kernel_rfl
theorem cellsRows : Tryd.prog.cellsOf 23 = 1 := by kernel_rfl
theorem cellsInts : Tryd.prog.cellsOf 22 = 1 := by kernel_rfl
theorem cellsEvs : Tryd.prog.cellsOf 24 = 1 := by kernel_rfl
theorem cellsM : Tryd.prog.cellsOf 26 = 6 := by kernel_rfl
theorem list4 {α : Type} {l : List α} (h : l.length = 4) : ∃ a b c d, l = [a, b, c, d] := by
  match l, h with
  | [a, b, c, d], _ => exact ⟨a, b, c, d, rfl⟩
theorem list6 {α : Type} {l : List α} (h : l.length = 6) : ∃ a b c d e f, l = [a, b, c, d, e, f] := by
  match l, h with
  | [a, b, c, d, e, f], _ => exact ⟨a, b, c, d, e, f, rfl⟩
set_option maxRecDepth 100000 in
theorem trod_op {H : Type} {enc : TypeId × Value → H} {w : World} {base : Nat} {spare : Nat → Bool} {held : Bool} {fuel : Nat} {cs : List Value} {x : DataW H × List MemPlace}
    (h : DataW.trod enc Tryd.prog w base spare held fuel 116 cs = some x) : ∃ c a b k : Int, cs = [.int .i64 c, .int .i64 a, .int .i64 b, .int .i64 k] ∧ wfI c ∧ wfI a ∧ wfI b ∧ wfI k := by
  obtain ⟨xs, n, _, rfl, hl, hlen, hf⟩ := DataW.trod_struct Tryd.underlying116 h
  rw [cellsOp] at hl
  obtain ⟨c0, c1, c2, c3, rfl⟩ := list4 hl
  have hx : xs.length = 4 := by simpa using hlen
  obtain ⟨y0, y1, y2, y3, rfl⟩ := list4 hx
  have h0 := hf 0 _ rfl
  have h1 := hf 1 _ rfl
  have h2 := hf 2 _ rfl
  have h3 := hf 3 _ rfl
  obtain ⟨a0, e0, _, w0⟩ := DataW.trod_int Tryd.underlying3 h0
  obtain ⟨a1, e1, _, w1⟩ := DataW.trod_int Tryd.underlying3 h1
  obtain ⟨a2, e2, _, w2⟩ := DataW.trod_int Tryd.underlying3 h2
  obtain ⟨a3, e3, _, w3⟩ := DataW.trod_int Tryd.underlying3 h3
  simp [cells3] at e0 e1 e2 e3
  subst e0 e1 e2 e3
  exact ⟨a0, a1, a2, a3, rfl, w0, w1, w2, w3⟩
set_option maxRecDepth 100000 in
theorem trod_ints {H : Type} {enc : TypeId × Value → H} {w : World} {spare : Nat → Bool} {held : Bool} {fuel : Nat} {cs : List Value} {x : DataW H × List MemPlace}
    (hf : DataW.trod enc Tryd.prog w 0 spare held fuel 22 cs = some x) : ∃ v l, cs = [v] ∧ IsI w v l := by
  rcases DataW.trod_slice Tryd.underlying22 hf with ⟨rfl, _⟩ | ⟨a, len, cap, elems, rest, n, _, rfl, _, hb, hl, hm, hlen, hel, _, _⟩
  · exact ⟨_, [], rfl, none, 0, rfl, Nat.le_refl _, by unfold maxLen; omega, .inl rfl⟩
  · by_cases h0 : len = 0
    · subst h0
      exact ⟨_, [], rfl, _, _, rfl, hl, hm, .inl rfl⟩
    · obtain ⟨b, off, spot⟩ := a
      have hs : spot = none := by
        have h1 := hel 0 (by omega)
        rw [cells3, List.getElem?_eq_getElem (by omega)] at h1
        obtain ⟨cs, hc, ht⟩ := Option.bind_eq_some_iff.1 h1
        obtain ⟨t, rfl, _⟩ := DataW.trod_int Tryd.underlying3 ht
        have c0 := (World.cells?_some hc).2.2 0 (by omega)
        simpa [Addr.add] using World.cell?_spot c0
      subst hs
      have each : ∀ i, i < len → ∃ z : Int, w.cell? ⟨b, off + i, none⟩ = some (.int .i64 z) ∧ b < w.heap.size := by
        intro i hi
        have h1 := hel i hi
        rw [cells3, List.getElem?_eq_getElem (by omega), add_plain] at h1
        obtain ⟨cs, hc, ht⟩ := Option.bind_eq_some_iff.1 h1
        obtain ⟨t, rfl, _, hw⟩ := DataW.trod_int Tryd.underlying3 ht
        have hblk : b < w.heap.size := World.cells?_block hc (by omega)
        obtain ⟨_, _, hcell⟩ := World.cells?_some hc
        have h2 := hcell 0 (by omega)
        simp only [add_plain] at h2
        exact ⟨t, by simpa using h2, hblk⟩
      obtain ⟨_, _, hblk⟩ := each 0 (by omega)
      obtain ⟨l, rfl, hi⟩ := ints_list (w := w) (b := b) (off := off) len (fun i hi => by
        obtain ⟨e, he, _⟩ := each i hi
        exact ⟨e, he⟩)
      exact ⟨_, l, rfl, _, _, rfl, hl, hm, .inr ⟨b, off, rfl, hblk, hi⟩⟩
set_option maxRecDepth 100000 in
theorem trod_evs {H : Type} {enc : TypeId × Value → H} {w : World} {spare : Nat → Bool} {held : Bool} {fuel : Nat} {cs : List Value} {x : DataW H × List MemPlace}
    (hf : DataW.trod enc Tryd.prog w 0 spare held fuel 24 cs = some x) : ∃ v l, cs = [v] ∧ IsEvs w v l := by
  rcases DataW.trod_slice Tryd.underlying24 hf with ⟨rfl, _⟩ | ⟨a, len, cap, elems, rest, n, _, rfl, _, hb, hl, hm, hlen, hel, _, _⟩
  · exact ⟨_, [], rfl, none, 0, rfl, Nat.le_refl _, by unfold maxLen; omega, .inl rfl⟩
  · by_cases h0 : len = 0
    · subst h0
      exact ⟨_, [], rfl, _, _, rfl, hl, hm, .inl rfl⟩
    · obtain ⟨b, off, spot⟩ := a
      have hs : spot = none := by
        have h1 := hel 0 (by omega)
        rw [cells23, List.getElem?_eq_getElem (by omega)] at h1
        obtain ⟨cs, hc, ht⟩ := Option.bind_eq_some_iff.1 h1
        obtain ⟨t, s, q, d, k, v, g, rfl, _⟩ := trod_ev ht
        have c0 := (World.cells?_some hc).2.2 0 (by omega)
        simpa [Addr.add] using World.cell?_spot c0
      subst hs
      have each : ∀ i, i < len → ∃ e : Ev, Ev.In w b (off + i * 7) e ∧ b < w.heap.size := by
        intro i hi
        have h1 := hel i hi
        rw [cells23, List.getElem?_eq_getElem (by omega), add_plain] at h1
        obtain ⟨cs, hc, ht⟩ := Option.bind_eq_some_iff.1 h1
        obtain ⟨t, s, q, d, k, v, g, rfl, _⟩ := trod_ev ht
        have hblk : b < w.heap.size := World.cells?_block hc (by omega)
        obtain ⟨_, _, hcell⟩ := World.cells?_some hc
        simp only [add_plain] at hcell
        exact ⟨⟨t, s, q, d, k, v, g⟩, ⟨hcell 0 (by omega), hcell 1 (by omega), hcell 2 (by omega), hcell 3 (by omega), hcell 4 (by omega), hcell 5 (by omega), hcell 6 (by omega)⟩, hblk⟩
      obtain ⟨_, _, hblk⟩ := each 0 (by omega)
      obtain ⟨l, rfl, hi⟩ := evs_list (w := w) (b := b) (off := off) len (fun i hi => by
        obtain ⟨e, he, _⟩ := each i hi
        exact ⟨e, he⟩)
      exact ⟨_, l, rfl, _, _, rfl, hl, hm, .inr ⟨b, off, rfl, hblk, hi⟩⟩
theorem os_list {w : World} {b off : Nat} : ∀ n, (∀ i, i < n → ∃ e : O, OAt w b (off + i * 4) e) → ∃ l : List O, l.length = n ∧ ∀ i, i < n → OAt w b (off + i * 4) (oAt l i)
  | 0, _ => ⟨[], rfl, fun i hi => by omega⟩
  | n + 1, h => by
    obtain ⟨l, hl, hi⟩ := os_list n (fun i hi => h i (by omega))
    obtain ⟨e, he⟩ := h n (by omega)
    refine ⟨l ++ [e], by simp [hl], fun i hi' => ?_⟩
    by_cases hin : i < n
    · have : oAt (l ++ [e]) i = oAt l i := by unfold oAt; simp [List.getElem?_append_left (by omega : i < l.length)]
      rw [this]; exact hi i hin
    · have : oAt (l ++ [e]) i = e := by unfold oAt; simp [show i = l.length by omega]
      rw [this, show i = n by omega]; exact he
set_option maxRecDepth 100000 in
theorem trod_ops {H : Type} {enc : TypeId × Value → H} {w : World} {spare : Nat → Bool} {held : Bool} {fuel : Nat} {cs : List Value} {x : DataW H × List MemPlace}
    (hf : DataW.trod enc Tryd.prog w 0 spare held fuel 87 cs = some x) : ∃ v l, cs = [v] ∧ IsO w v l := by
  rcases DataW.trod_slice Tryd.underlying87 hf with ⟨rfl, _⟩ | ⟨a, len, cap, elems, rest, n, _, rfl, _, hb, hl, hm, hlen, hel, _, _⟩
  · exact ⟨_, [], rfl, none, 0, rfl, Nat.le_refl _, by unfold maxLen; omega, .inl rfl⟩
  · by_cases h0 : len = 0
    · subst h0
      exact ⟨_, [], rfl, _, _, rfl, hl, hm, .inl rfl⟩
    · obtain ⟨b, off, spot⟩ := a
      have hs : spot = none := by
        have h1 := hel 0 (by omega)
        rw [cellsOp, List.getElem?_eq_getElem (by omega)] at h1
        obtain ⟨cs, hc, ht⟩ := Option.bind_eq_some_iff.1 h1
        obtain ⟨c, a, b, k, rfl, _⟩ := trod_op ht
        have c0 := (World.cells?_some hc).2.2 0 (by omega)
        simpa [Addr.add] using World.cell?_spot c0
      subst hs
      have each : ∀ i, i < len → ∃ e : O, OAt w b (off + i * 4) e ∧ b < w.heap.size := by
        intro i hi
        have h1 := hel i hi
        rw [cellsOp, List.getElem?_eq_getElem (by omega), add_plain] at h1
        obtain ⟨cs, hc, ht⟩ := Option.bind_eq_some_iff.1 h1
        obtain ⟨c, a, b', k, rfl, _⟩ := trod_op ht
        have hblk : b < w.heap.size := World.cells?_block hc (by omega)
        obtain ⟨_, _, hcell⟩ := World.cells?_some hc
        simp only [add_plain] at hcell
        exact ⟨⟨c, a, b', k⟩, ⟨hcell 0 (by omega), hcell 1 (by omega), hcell 2 (by omega), hcell 3 (by omega)⟩, hblk⟩
      obtain ⟨_, _, hblk⟩ := each 0 (by omega)
      obtain ⟨l, rfl, hi⟩ := os_list (w := w) (b := b) (off := off) len (fun i hi => by
        obtain ⟨e, he, _⟩ := each i hi
        exact ⟨e, he⟩)
      exact ⟨_, l, rfl, _, _, rfl, hl, hm, .inr ⟨b, off, rfl, hblk, hi⟩⟩
theorem hs_list {w : World} {b off : Nat} : ∀ n, (∀ i, i < n → ∃ u l, w.cell? ⟨b, off + i, none⟩ = some u ∧ IsO w u l) → ∃ l : List (List O), l.length = n ∧ ∀ i, i < n → ∃ u, w.cell? ⟨b, off + i, none⟩ = some u ∧ IsO w u (hAt l i)
  | 0, _ => ⟨[], rfl, fun i hi => by omega⟩
  | n + 1, h => by
    obtain ⟨l, hl, hi⟩ := hs_list n (fun i hi => h i (by omega))
    obtain ⟨u, r, hu, hr⟩ := h n (by omega)
    refine ⟨l ++ [r], by simp [hl], fun i hi' => ?_⟩
    by_cases hin : i < n
    · have : hAt (l ++ [r]) i = hAt l i := by unfold hAt; simp [List.getElem?_append_left (by omega : i < l.length)]
      rw [this]; exact hi i hin
    · have : hAt (l ++ [r]) i = r := by unfold hAt; simp [show i = l.length by omega]
      rw [this, show i = n by omega]; exact ⟨u, hu, hr⟩
set_option maxRecDepth 100000 in
theorem trod_hs {H : Type} {enc : TypeId × Value → H} {w : World} {spare : Nat → Bool} {held : Bool} {fuel : Nat} {cs : List Value} {x : DataW H × List MemPlace}
    (hf : DataW.trod enc Tryd.prog w 0 spare held fuel 23 cs = some x) : ∃ v l, cs = [v] ∧ IsH w v l := by
  rcases DataW.trod_slice Tryd.underlying23 hf with ⟨rfl, _⟩ | ⟨a, len, cap, elems, rest, n, _, rfl, _, hb, hl, hm, hlen, hel, _, _⟩
  · exact ⟨_, [], rfl, none, 0, rfl, Nat.le_refl _, by unfold maxLen; omega, .inl rfl⟩
  · by_cases h0 : len = 0
    · subst h0
      exact ⟨_, [], rfl, _, _, rfl, hl, hm, .inl rfl⟩
    · obtain ⟨b, off, spot⟩ := a
      have hs : spot = none := by
        have h1 := hel 0 (by omega)
        rw [cellsRow, List.getElem?_eq_getElem (by omega)] at h1
        obtain ⟨cs, hc, ht⟩ := Option.bind_eq_some_iff.1 h1
        obtain ⟨v, l, rfl, _⟩ := trod_ops ht
        have c0 := (World.cells?_some hc).2.2 0 (by omega)
        simpa [Addr.add] using World.cell?_spot c0
      subst hs
      have each : ∀ i, i < len → ∃ u l, (w.cell? ⟨b, off + i, none⟩ = some u ∧ IsO w u l) ∧ b < w.heap.size := by
        intro i hi
        have h1 := hel i hi
        rw [cellsRow, List.getElem?_eq_getElem (by omega), add_plain] at h1
        obtain ⟨cs, hc, ht⟩ := Option.bind_eq_some_iff.1 h1
        obtain ⟨v, l, rfl, hv⟩ := trod_ops ht
        have hblk : b < w.heap.size := World.cells?_block hc (by omega)
        obtain ⟨_, _, hcell⟩ := World.cells?_some hc
        have h2 := hcell 0 (by omega)
        simp only [add_plain] at h2
        exact ⟨v, l, ⟨by simpa using h2, hv⟩, hblk⟩
      obtain ⟨_, _, _, hblk⟩ := each 0 (by omega)
      obtain ⟨l, rfl, hi⟩ := hs_list (w := w) (b := b) (off := off) len (fun i hi => by
        obtain ⟨u, l, he, _⟩ := each i hi
        exact ⟨u, l, he⟩)
      exact ⟨_, l, rfl, _, _, rfl, hl, hm, .inr ⟨b, off, rfl, hblk, hi⟩⟩
set_option maxRecDepth 100000 in
theorem open_model {H : Type} {enc : TypeId × Value → H} {w : World} {b0 : Nat} {spare : Nat → Bool} {held : Bool} {r : Reach} {v : Value} {d : DataW H} {p : List MemPlace}
    (hv : Value.okWide Tryd.prog w r b0 26 v) (h : DataW.Trod enc Tryd.prog w 0 spare held 26 v d p) : ∃ m : Md, IsM w v m := by
  obtain ⟨cs, rfl, hsz⟩ := okWide_struct Tryd.underlying26 hv
  obtain ⟨fuel, hf⟩ := h
  obtain ⟨xs, n, _, _, hl, hlen, hf⟩ := DataW.trod_struct Tryd.underlying26 hf
  rw [cellsM] at hl
  obtain ⟨c0, c1, c2, c3, c4, c5, hcs⟩ := list6 hl
  have hx : xs.length = 6 := by simpa using hlen
  obtain ⟨y0, y1, y2, y3, y4, y5, rfl⟩ := list6 hx
  rw [hcs] at hf
  have h0 := hf 0 _ rfl
  have h1 := hf 1 _ rfl
  have h2 := hf 2 _ rfl
  have h3 := hf 3 _ rfl
  have h4 := hf 4 _ rfl
  have h5 := hf 5 _ rfl
  obtain ⟨a0, e0, _, _⟩ := DataW.trod_int Tryd.underlying3 h0
  obtain ⟨a1, e1, _, _⟩ := DataW.trod_int Tryd.underlying3 h1
  obtain ⟨v2, l2, e2, g2⟩ := trod_ints h2
  obtain ⟨v3, l3, e3, g3⟩ := trod_hs h3
  obtain ⟨v4, l4, e4, g4⟩ := trod_evs h4
  obtain ⟨a5, e5, _, _⟩ := DataW.trod_int Tryd.underlying3 h5
  simp [cells3, cellsInts, cellsRows, cellsEvs] at e0 e1 e2 e3 e4 e5
  subst e0 e1 e2 e3 e4 e5
  refine ⟨⟨a0, a1, l2, l3, l4, a5⟩, c2, c3, c4, ?_, g2, g3, g4⟩
  rw [show cs = #[.int .i64 a0, .int .i64 a1, c2, c3, c4, .int .i64 a5] from by
    apply Array.toList_inj.1
    simpa [Value.cells] using hcs]
set_option maxRecDepth 100000 in
theorem open_op {H : Type} {enc : TypeId × Value → H} {w : World} {base b0 : Nat} {spare : Nat → Bool} {held : Bool} {r : Reach} {v : Value} {d : DataW H} {p : List MemPlace}
    (hv : Value.okWide Tryd.prog w r b0 116 v) (h : DataW.Trod enc Tryd.prog w base spare held 116 v d p) :
    ∃ c a b k : Int, v = .agg #[.int .i64 c, .int .i64 a, .int .i64 b, .int .i64 k] ∧ wfI c ∧ wfI a ∧ wfI b ∧ wfI k := by
  obtain ⟨cs, rfl, hsz⟩ := okWide_struct Tryd.underlying116 hv
  obtain ⟨fuel, hf⟩ := h
  obtain ⟨c, a, b, k, e, hw⟩ := trod_op hf
  refine ⟨c, a, b, k, ?_, hw⟩
  rw [show cs = #[.int .i64 c, .int .i64 a, .int .i64 b, .int .i64 k] from by
    apply Array.toList_inj.1
    simpa [Value.cells] using e]
end Go.Proofs.YtbcdfacbhemijaaDoor

/- How a history that came in is read. -/
namespace Go.Proofs.YtbcdfacbhemijaaDoor
open Go.ChangeShapes Go.WideShapes Go.ChangeAt Go.RowKit
def IntIn (z : Int) : Prop := -9223372036854775808 ≤ z ∧ z ≤ 9223372036854775807
def EmIn (e : Em) : Prop := IntIn e.t ∧ IntIn e.l ∧ IntIn e.v
def Hy.inR (h : Hy) : Prop := ∀ i, i < h.x.length → EmIn (xAt h.x i)
theorem int_in {z : Int} (h : (Lit.int .i64 z).wf = true) : IntIn z := by
  have h9 : (decide (IntKind.i64.min ≤ z) && decide (z ≤ IntKind.i64.max)) = true := h
  have e1 : IntKind.i64.min = -9223372036854775808 := by decide
  have e2 : IntKind.i64.max = 9223372036854775807 := by decide
  rw [e1, e2] at h9
  simpa [IntIn] using h9
theorem cellsEm : Tryd.prog.cellsOf 110 = 3 := by kernel_rfl
theorem cellsEms : Tryd.prog.cellsOf 40 = 1 := by kernel_rfl
theorem cellsBool : Tryd.prog.cellsOf 4 = 1 := by kernel_rfl
theorem cellsHy : Tryd.prog.cellsOf 42 = 4 := by kernel_rfl
theorem list3 {α : Type} {l : List α} (h : l.length = 3) : ∃ a b c, l = [a, b, c] := by
  match l, h with
  | [a, b, c], _ => exact ⟨a, b, c, rfl⟩
theorem list4p {α : Type} {l : List α} (h : l.length = 4) : ∃ a b c d, l = [a, b, c, d] := by
  match l, h with
  | [a, b, c, d], _ => exact ⟨a, b, c, d, rfl⟩
set_option maxRecDepth 100000 in
theorem trod_emit {H : Type} {enc : TypeId × Value → H} {w : World} {base : Nat} {spare : Nat → Bool} {held : Bool} {fuel : Nat} {cs : List Value} {x : DataW H × List MemPlace}
    (h : DataW.trod enc Tryd.prog w base spare held fuel 110 cs = some x) : ∃ t l v : Int, cs = [.int .i64 t, .int .i64 l, .int .i64 v] ∧ EmIn ⟨t, l, v⟩ := by
  obtain ⟨xs, n, _, rfl, hl, hlen, hf⟩ := DataW.trod_struct Tryd.underlying110 h
  rw [cellsEm] at hl
  obtain ⟨c0, c1, c2, rfl⟩ := list3 hl
  have hx : xs.length = 3 := by simpa using hlen
  obtain ⟨y0, y1, y2, rfl⟩ := list3 hx
  have h0 := hf 0 _ rfl
  have h1 := hf 1 _ rfl
  have h2 := hf 2 _ rfl
  obtain ⟨a0, e0, _, w0⟩ := DataW.trod_int Tryd.underlying3 h0
  obtain ⟨a1, e1, _, w1⟩ := DataW.trod_int Tryd.underlying3 h1
  obtain ⟨a2, e2, _, w2⟩ := DataW.trod_int Tryd.underlying3 h2
  simp [cells3] at e0 e1 e2
  subst e0 e1 e2
  exact ⟨a0, a1, a2, rfl, int_in w0, int_in w1, int_in w2⟩
theorem xs_list {w : World} {b off : Nat} : ∀ n, (∀ i, i < n → ∃ e : Em, XAt w b (off + i * 3) e ∧ EmIn e) → ∃ l : List Em, l.length = n ∧ ∀ i, i < n → XAt w b (off + i * 3) (xAt l i) ∧ EmIn (xAt l i)
  | 0, _ => ⟨[], rfl, fun i hi => by omega⟩
  | n + 1, h => by
    obtain ⟨l, hl, hi⟩ := xs_list n (fun i hi => h i (by omega))
    obtain ⟨e, he⟩ := h n (by omega)
    refine ⟨l ++ [e], by simp [hl], fun i hi' => ?_⟩
    by_cases hin : i < n
    · have : xAt (l ++ [e]) i = xAt l i := by unfold xAt; simp [List.getElem?_append_left (by omega : i < l.length)]
      rw [this]; exact hi i hin
    · have : xAt (l ++ [e]) i = e := by unfold xAt; simp [show i = l.length by omega]
      rw [this, show i = n by omega]; exact he
set_option maxRecDepth 100000 in
theorem trod_ems {H : Type} {enc : TypeId × Value → H} {w : World} {spare : Nat → Bool} {held : Bool} {fuel : Nat} {cs : List Value} {x : DataW H × List MemPlace}
    (hf : DataW.trod enc Tryd.prog w 0 spare held fuel 40 cs = some x) : ∃ v l, cs = [v] ∧ IsX w v l ∧ ∀ i, i < l.length → EmIn (xAt l i) := by
  rcases DataW.trod_slice Tryd.underlying40 hf with ⟨rfl, _⟩ | ⟨a, len, cap, elems, rest, n, _, rfl, _, hb, hl, hm, hlen, hel, _, _⟩
  · exact ⟨_, [], rfl, ⟨none, 0, rfl, Nat.le_refl _, by unfold maxLen; omega, .inl rfl⟩, fun i hi => by simp at hi⟩
  · by_cases h0 : len = 0
    · subst h0
      exact ⟨_, [], rfl, ⟨_, _, rfl, hl, hm, .inl rfl⟩, fun i hi => by simp at hi⟩
    · obtain ⟨b, off, spot⟩ := a
      have hs : spot = none := by
        have h1 := hel 0 (by omega)
        rw [cellsEm, List.getElem?_eq_getElem (by omega)] at h1
        obtain ⟨cs, hc, ht⟩ := Option.bind_eq_some_iff.1 h1
        obtain ⟨t, l, v, rfl, hin⟩ := trod_emit ht
        have c0 := (World.cells?_some hc).2.2 0 (by omega)
        simpa [Addr.add] using World.cell?_spot c0
      subst hs
      have each : ∀ i, i < len → ∃ e : Em, (XAt w b (off + i * 3) e ∧ EmIn e) ∧ b < w.heap.size := by
        intro i hi
        have h1 := hel i hi
        rw [cellsEm, List.getElem?_eq_getElem (by omega), add_plain] at h1
        obtain ⟨cs, hc, ht⟩ := Option.bind_eq_some_iff.1 h1
        obtain ⟨t, l, v, rfl, hin⟩ := trod_emit ht
        have hblk : b < w.heap.size := World.cells?_block hc (by omega)
        obtain ⟨_, _, hcell⟩ := World.cells?_some hc
        simp only [add_plain] at hcell
        exact ⟨⟨t, l, v⟩, ⟨⟨hcell 0 (by omega), hcell 1 (by omega), hcell 2 (by omega)⟩, hin⟩, hblk⟩
      obtain ⟨_, _, hblk⟩ := each 0 (by omega)
      obtain ⟨l, rfl, hi⟩ := xs_list (w := w) (b := b) (off := off) len (fun i hi => by
        obtain ⟨e, he, _⟩ := each i hi
        exact ⟨e, he⟩)
      exact ⟨_, l, rfl, ⟨_, _, rfl, hl, hm, .inr ⟨b, off, rfl, hblk, fun i h9 => (hi i h9).1⟩⟩, fun i h9 => (hi i h9).2⟩
set_option maxRecDepth 100000 in
theorem open_history {H : Type} {enc : TypeId × Value → H} {w : World} {b0 : Nat} {spare : Nat → Bool} {held : Bool} {r : Reach} {v : Value} {d : DataW H} {p : List MemPlace}
    (hv : Value.okWide Tryd.prog w r b0 42 v) (h : DataW.Trod enc Tryd.prog w 0 spare held 42 v d p) : ∃ h : Hy, IsHistory w v h ∧ h.inR := by
  obtain ⟨cs, rfl, hsz⟩ := okWide_struct Tryd.underlying42 hv
  obtain ⟨fuel, hf⟩ := h
  obtain ⟨xs, n, _, _, hl, hlen, hf⟩ := DataW.trod_struct Tryd.underlying42 hf
  rw [cellsHy] at hl
  obtain ⟨c0, c1, c2, c3, hcs⟩ := list4p hl
  have hx : xs.length = 4 := by simpa using hlen
  obtain ⟨y0, y1, y2, y3, rfl⟩ := list4p hx
  rw [hcs] at hf
  have h0 := hf 0 _ rfl
  have h1 := hf 1 _ rfl
  have h2 := hf 2 _ rfl
  have h3 := hf 3 _ rfl
  obtain ⟨v0, l0, e0, g0⟩ := trod_evs h0
  obtain ⟨v1, l1, e1, g1, gin⟩ := trod_ems h1
  obtain ⟨a2, e2, _, _⟩ := DataW.trod_int Tryd.underlying3 h2
  obtain ⟨a3, e3, _⟩ := DataW.trod_bool Tryd.underlying4 h3
  simp [cells3, cellsBool, cellsEvs, cellsEms] at e0 e1 e2 e3
  subst e0 e1 e2 e3
  refine ⟨⟨l0, l1, a2, a3⟩, ⟨c0, c1, ?_, g0.isD, g1.isD⟩, gin⟩
  rw [show cs = #[c0, c1, .int .i64 a2, .bool a3] from by
    apply Array.toList_inj.1
    simpa [Value.cells] using hcs]
end Go.Proofs.YtbcdfacbhemijaaDoor

