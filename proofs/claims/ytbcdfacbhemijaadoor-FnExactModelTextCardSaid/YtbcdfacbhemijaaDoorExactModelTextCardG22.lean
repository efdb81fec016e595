/- MOpen, LawModelTextW -/
import Derived.Test.YtbcdfacbhemijaaDoorExactModelTextCardG06
import Derived.Test.YtbcdfacbhemijaaDoorExactModelTextCardG21
import Derived.SizedLaws
import Derived.Test.YtbcdfacbhemijaaDoorExactModelTextCardLMTxS
import Derived.Test.YtbcdfacbhemijaaDoorExactModelTextCardG20
/- How a model that came in is read. -/
namespace Go.Proofs.YtbcdfacbhemijaaDoor
open Go.ChangeShapes Go.WideShapes Go.ChangeAt Go.RowKit
theorem cellsOp : Tryd.prog.cellsOf 116 = 4 := by kernel_rfl
theorem cellsRow : Tryd.prog.cellsOf 87 = 1 := by kernel_rfl
theorem cellsRows : Tryd.prog.cellsOf 23 = 1 := by kernel_rfl
theorem cellsInts : Tryd.prog.cellsOf 22 = 1 := by kernel_rfl
theorem cellsEvs : Tryd.prog.cellsOf 24 = 1 := by kernel_rfl
theorem cellsM : Tryd.prog.cellsOf 26 = 6 := by kernel_rfl
theorem list4 {α : Type} {l : List α} (h : l.length = 4) : ∃ a b c d, l = [a, b, c, d] := by
  match l, h with
  | [a, b, c, d], _ => exact ⟨a, b, c, d, rfl⟩
theorem list6 {α : Type} {l : List α} (h : l.length = 6) : ∃ a b c d e f, l = [a, b, c, d, e, f] := by
  match l, h with
  | [a, b, c, d, e, f], _ => exact ⟨a, b, c, d, e, f, rfl⟩
set_option maxRecDepth 100000 in
theorem trod_op {H : Type} {enc : TypeId × Value → H} {w : World} {base : Nat} {spare : Nat → Bool} {held : Bool} {fuel : Nat} {cs : List Value} {x : DataW H × List MemPlace}
    (h : DataW.trod enc Tryd.prog w base spare held fuel 116 cs = some x) : ∃ c a b k : Int, cs = [.int .i64 c, .int .i64 a, .int .i64 b, .int .i64 k] ∧ wfI c ∧ wfI a ∧ wfI b ∧ wfI k := by
  obtain ⟨xs, n, _, rfl, hl, hlen, hf⟩ := DataW.trod_struct Tryd.underlying116 h
  rw [cellsOp] at hl
  obtain ⟨c0, c1, c2, c3, rfl⟩ := list4 hl
  have hx : xs.length = 4 := by simpa using hlen
  obtain ⟨y0, y1, y2, y3, rfl⟩ := list4 hx
  have h0 := hf 0 _ rfl
  have h1 := hf 1 _ rfl
  have h2 := hf 2 _ rfl
  have h3 := hf 3 _ rfl
  obtain ⟨a0, e0, _, w0⟩ := DataW.trod_int Tryd.underlying3 h0
  obtain ⟨a1, e1, _, w1⟩ := DataW.trod_int Tryd.underlying3 h1
  obtain ⟨a2, e2, _, w2⟩ := DataW.trod_int Tryd.underlying3 h2
  obtain ⟨a3, e3, _, w3⟩ := DataW.trod_int Tryd.underlying3 h3
  simp [cells3] at e0 e1 e2 e3
  subst e0 e1 e2 e3
  exact ⟨a0, a1, a2, a3, rfl, w0, w1, w2, w3⟩
set_option maxRecDepth 100000 in
theorem trod_ints {H : Type} {enc : TypeId × Value → H} {w : World} {spare : Nat → Bool} {held : Bool} {fuel : Nat} {cs : List Value} {x : DataW H × List MemPlace}
    (hf : DataW.trod enc Tryd.prog w 0 spare held fuel 22 cs = some x) : ∃ v l, cs = [v] ∧ IsI w v l := by
  rcases DataW.trod_slice Tryd.underlying22 hf with ⟨rfl, _⟩ | ⟨a, len, cap, elems, rest, n, _, rfl, _, hb, hl, hm, hlen, hel, _, _⟩
  · exact ⟨_, [], rfl, none, 0, rfl, Nat.le_refl _, by unfold maxLen; omega, .inl rfl⟩
  · by_cases h0 : len = 0
    · subst h0
      exact ⟨_, [], rfl, _, _, rfl, hl, hm, .inl rfl⟩
    · obtain ⟨b, off, spot⟩ := a
      have hs : spot = none := by
        have h1 := hel 0 (by omega)
        rw [cells3, List.getElem?_eq_getElem (by omega)] at h1
        obtain ⟨cs, hc, ht⟩ := Option.bind_eq_some_iff.1 h1
        obtain ⟨t, rfl, _⟩ := DataW.trod_int Tryd.underlying3 ht
        have c0 := (World.cells?_some hc).2.2 0 (by omega)
        simpa [Addr.add] using World.cell?_spot c0
      subst hs
      have each : ∀ i, i < len → ∃ z : Int, w.cell? ⟨b, off + i, none⟩ = some (.int .i64 z) ∧ b < w.heap.size := by
        intro i hi
        have h1 := hel i hi
        rw [cells3, List.getElem?_eq_getElem (by omega), add_plain] at h1
        obtain ⟨cs, hc, ht⟩ := Option.bind_eq_some_iff.1 h1
        obtain ⟨t, rfl, _, hw⟩ := DataW.trod_int Tryd.underlying3 ht
        have hblk : b < w.heap.size := World.cells?_block hc (by omega)
        obtain ⟨_, _, hcell⟩ := World.cells?_some hc
        have h2 := hcell 0 (by omega)
        simp only [add_plain] at h2
        exact ⟨t, by simpa using h2, hblk⟩
      obtain ⟨_, _, hblk⟩ := each 0 (by omega)
      obtain ⟨l, rfl, hi⟩ := ints_list (w := w) (b := b) (off := off) len (fun i hi => by
        obtain ⟨e, he, _⟩ := each i hi
        exact ⟨e, he⟩)
      exact ⟨_, l, rfl, _, _, rfl, hl, hm, .inr ⟨b, off, rfl, hblk, hi⟩⟩
set_option maxRecDepth 100000 in
theorem trod_evs {H : Type} {enc : TypeId × Value → H} {w : World} {spare : Nat → Bool} {held : Bool} {fuel : Nat} {cs : List Value} {x : DataW H × List MemPlace}
    (hf : DataW.trod enc Tryd.prog w 0 spare held fuel 24 cs = some x) : ∃ v l, cs = [v] ∧ IsEvs w v l := by
  rcases DataW.trod_slice Tryd.underlying24 hf with ⟨rfl, _⟩ | ⟨a, len, cap, elems, rest, n, _, rfl, _, hb, hl, hm, hlen, hel, _, _⟩
  · exact ⟨_, [], rfl, none, 0, rfl, Nat.le_refl _, by unfold maxLen; omega, .inl rfl⟩
  · by_cases h0 : len = 0
    · subst h0
      exact ⟨_, [], rfl, _, _, rfl, hl, hm, .inl rfl⟩
    · obtain ⟨b, off, spot⟩ := a
      have hs : spot = none := by
        have h1 := hel 0 (by omega)
        rw [cells23, List.getElem?_eq_getElem (by omega)] at h1
        obtain ⟨cs, hc, ht⟩ := Option.bind_eq_some_iff.1 h1
        obtain ⟨t, s, q, d, k, v, g, rfl, _⟩ := trod_ev ht
        have c0 := (World.cells?_some hc).2.2 0 (by omega)
        simpa [Addr.add] using World.cell?_spot c0
      subst hs
      have each : ∀ i, i < len → ∃ e : Ev, Ev.In w b (off + i * 7) e ∧ b < w.heap.size := by
        intro i hi
        have h1 := hel i hi
        rw [cells23, List.getElem?_eq_getElem (by omega), add_plain] at h1
        obtain ⟨cs, hc, ht⟩ := Option.bind_eq_some_iff.1 h1
        obtain ⟨t, s, q, d, k, v, g, rfl, _⟩ := trod_ev ht
        have hblk : b < w.heap.size := World.cells?_block hc (by omega)
        obtain ⟨_, _, hcell⟩ := World.cells?_some hc
        simp only [add_plain] at hcell
        exact ⟨⟨t, s, q, d, k, v, g⟩, ⟨hcell 0 (by omega), hcell 1 (by omega), hcell 2 (by omega), hcell 3 (by omega), hcell 4 (by omega), hcell 5 (by omega), hcell 6 (by omega)⟩, hblk⟩
      obtain ⟨_, _, hblk⟩ := each 0 (by omega)
      obtain ⟨l, rfl, hi⟩ := evs_list (w := w) (b := b) (off := off) len (fun i hi => by
        obtain ⟨e, he, _⟩ := each i hi
        exact ⟨e, he⟩)
      exact ⟨_, l, rfl, _, _, rfl, hl, hm, .inr ⟨b, off, rfl, hblk, hi⟩⟩
theorem os_list {w : World} {b off : Nat} : ∀ n, (∀ i, i < n → ∃ e : O, OAt w b (off + i * 4) e) → ∃ l : List O, l.length = n ∧ ∀ i, i < n → OAt w b (off + i * 4) (oAt l i)
  | 0, _ => ⟨[], rfl, fun i hi => by omega⟩
  | n + 1, h => by
    obtain ⟨l, hl, hi⟩ := os_list n (fun i hi => h i (by omega))
    obtain ⟨e, he⟩ := h n (by omega)
    refine ⟨l ++ [e], by simp [hl], fun i hi' => ?_⟩
    by_cases hin : i < n
    · have : oAt (l ++ [e]) i = oAt l i := by unfold oAt; simp [List.getElem?_append_left (by omega : i < l.length)]
      rw [this]; exact hi i hin
    · have : oAt (l ++ [e]) i = e := by unfold oAt; simp [show i = l.length by omega]
      rw [this, show i = n by omega]; exact he
set_option maxRecDepth 100000 in
theorem trod_ops {H : Type} {enc : TypeId × Value → H} {w : World} {spare : Nat → Bool} {held : Bool} {fuel : Nat} {cs : List Value} {x : DataW H × List MemPlace}
    (hf : DataW.trod enc Tryd.prog w 0 spare held fuel 87 cs = some x) : ∃ v l, cs = [v] ∧ IsO w v l := by
  rcases DataW.trod_slice Tryd.underlying87 hf with ⟨rfl, _⟩ | ⟨a, len, cap, elems, rest, n, _, rfl, _, hb, hl, hm, hlen, hel, _, _⟩
  · exact ⟨_, [], rfl, none, 0, rfl, Nat.le_refl _, by unfold maxLen; omega, .inl rfl⟩
  · by_cases h0 : len = 0
    · subst h0
      exact ⟨_, [], rfl, _, _, rfl, hl, hm, .inl rfl⟩
    · obtain ⟨b, off, spot⟩ := a
      have hs : spot = none := by
        have h1 := hel 0 (by omega)
        rw [cellsOp, List.getElem?_eq_getElem (by omega)] at h1
        obtain ⟨cs, hc, ht⟩ := Option.bind_eq_some_iff.1 h1
        obtain ⟨c, a, b, k, rfl, _⟩ := trod_op ht
        have c0 := (World.cells?_some hc).2.2 0 (by omega)
        simpa [Addr.add] using World.cell?_spot c0
      subst hs
      have each : ∀ i, i < len → ∃ e : O, OAt w b (off + i * 4) e ∧ b < w.heap.size := by
        intro i hi
        have h1 := hel i hi
        rw [cellsOp, List.getElem?_eq_getElem (by omega), add_plain] at h1
        obtain ⟨cs, hc, ht⟩ := Option.bind_eq_some_iff.1 h1
        obtain ⟨c, a, b', k, rfl, _⟩ := trod_op ht
        have hblk : b < w.heap.size := World.cells?_block hc (by omega)
        obtain ⟨_, _, hcell⟩ := World.cells?_some hc
        simp only [add_plain] at hcell
        exact ⟨⟨c, a, b', k⟩, ⟨hcell 0 (by omega), hcell 1 (by omega), hcell 2 (by omega), hcell 3 (by omega)⟩, hblk⟩
      obtain ⟨_, _, hblk⟩ := each 0 (by omega)
      obtain ⟨l, rfl, hi⟩ := os_list (w := w) (b := b) (off := off) len (fun i hi => by
        obtain ⟨e, he, _⟩ := each i hi
        exact ⟨e, he⟩)
      exact ⟨_, l, rfl, _, _, rfl, hl, hm, .inr ⟨b, off, rfl, hblk, hi⟩⟩
theorem hs_list {w : World} {b off : Nat} : ∀ n, (∀ i, i < n → ∃ u l, w.cell? ⟨b, off + i, none⟩ = some u ∧ IsO w u l) → ∃ l : List (List O), l.length = n ∧ ∀ i, i < n → ∃ u, w.cell? ⟨b, off + i, none⟩ = some u ∧ IsO w u (hAt l i)
  | 0, _ => ⟨[], rfl, fun i hi => by omega⟩
  | n + 1, h => by
    obtain ⟨l, hl, hi⟩ := hs_list n (fun i hi => h i (by omega))
    obtain ⟨u, r, hu, hr⟩ := h n (by omega)
    refine ⟨l ++ [r], by simp [hl], fun i hi' => ?_⟩
    by_cases hin : i < n
    · have : hAt (l ++ [r]) i = hAt l i := by unfold hAt; simp [List.getElem?_append_left (by omega : i < l.length)]
      rw [this]; exact hi i hin
    · have : hAt (l ++ [r]) i = r := by unfold hAt; simp [show i = l.length by omega]
      rw [this, show i = n by omega]; exact ⟨u, hu, hr⟩
set_option maxRecDepth 100000 in
theorem trod_hs {H : Type} {enc : TypeId × Value → H} {w : World} {spare : Nat → Bool} {held : Bool} {fuel : Nat} {cs : List Value} {x : DataW H × List MemPlace}
    (hf : DataW.trod enc Tryd.prog w 0 spare held fuel 23 cs = some x) : ∃ v l, cs = [v] ∧ IsH w v l := by
  rcases DataW.trod_slice Tryd.underlying23 hf with ⟨rfl, _⟩ | ⟨a, len, cap, elems, rest, n, _, rfl, _, hb, hl, hm, hlen, hel, _, _⟩
  · exact ⟨_, [], rfl, none, 0, rfl, Nat.le_refl _, by unfold maxLen; omega, .inl rfl⟩
  · by_cases h0 : len = 0
    · subst h0
      exact ⟨_, [], rfl, _, _, rfl, hl, hm, .inl rfl⟩
    · obtain ⟨b, off, spot⟩ := a
      have hs : spot = none := by
        have h1 := hel 0 (by omega)
        rw [cellsRow, List.getElem?_eq_getElem (by omega)] at h1
        obtain ⟨cs, hc, ht⟩ := Option.bind_eq_some_iff.1 h1
        obtain ⟨v, l, rfl, _⟩ := trod_ops ht
        have c0 := (World.cells?_some hc).2.2 0 (by omega)
        simpa [Addr.add] using World.cell?_spot c0
      subst hs
      have each : ∀ i, i < len → ∃ u l, (w.cell? ⟨b, off + i, none⟩ = some u ∧ IsO w u l) ∧ b < w.heap.size := by
        intro i hi
        have h1 := hel i hi
        rw [cellsRow, List.getElem?_eq_getElem (by omega), add_plain] at h1
        obtain ⟨cs, hc, ht⟩ := Option.bind_eq_some_iff.1 h1
        obtain ⟨v, l, rfl, hv⟩ := trod_ops ht
        have hblk : b < w.heap.size := World.cells?_block hc (by omega)
        obtain ⟨_, _, hcell⟩ := World.cells?_some hc
        have h2 := hcell 0 (by omega)
        simp only [add_plain] at h2
        exact ⟨v, l, ⟨by simpa using h2, hv⟩, hblk⟩
      obtain ⟨_, _, _, hblk⟩ := each 0 (by omega)
      obtain ⟨l, rfl, hi⟩ := hs_list (w := w) (b := b) (off := off) len (fun i hi => by
        obtain ⟨u, l, he, _⟩ := each i hi
        exact ⟨u, l, he⟩)
      exact ⟨_, l, rfl, _, _, rfl, hl, hm, .inr ⟨b, off, rfl, hblk, hi⟩⟩
set_option maxRecDepth 100000 in
theorem open_model {H : Type} {enc : TypeId × Value → H} {w : World} {b0 : Nat} {spare : Nat → Bool} {held : Bool} {r : Reach} {v : Value} {d : DataW H} {p : List MemPlace}
    (hv : Value.okWide Tryd.prog w r b0 26 v) (h : DataW.Trod enc Tryd.prog w 0 spare held 26 v d p) : ∃ m : Md, IsM w v m := by
  obtain ⟨cs, rfl, hsz⟩ := okWide_struct Tryd.underlying26 hv
  obtain ⟨fuel, hf⟩ := h
  obtain ⟨xs, n, _, _, hl, hlen, hf⟩ := DataW.trod_struct Tryd.underlying26 hf
  rw [cellsM] at hl
  obtain ⟨c0, c1, c2, c3, c4, c5, hcs⟩ := list6 hl
  have hx : xs.length = 6 := by simpa using hlen
  obtain ⟨y0, y1, y2, y3, y4, y5, rfl⟩ := list6 hx
  rw [hcs] at hf
  have h0 := hf 0 _ rfl
  have h1 := hf 1 _ rfl
  have h2 := hf 2 _ rfl
  have h3 := hf 3 _ rfl
  have h4 := hf 4 _ rfl
  have h5 := hf 5 _ rfl
  obtain ⟨a0, e0, _, _⟩ := DataW.trod_int Tryd.underlying3 h0
  obtain ⟨a1, e1, _, _⟩ := DataW.trod_int Tryd.underlying3 h1
  obtain ⟨v2, l2, e2, g2⟩ := trod_ints h2
  obtain ⟨v3, l3, e3, g3⟩ := trod_hs h3
  obtain ⟨v4, l4, e4, g4⟩ := trod_evs h4
  obtain ⟨a5, e5, _, _⟩ := DataW.trod_int Tryd.underlying3 h5
  simp [cells3, cellsInts, cellsRows, cellsEvs] at e0 e1 e2 e3 e4 e5
  subst e0 e1 e2 e3 e4 e5
  refine ⟨⟨a0, a1, l2, l3, l4, a5⟩, c2, c3, c4, ?_, g2, g3, g4⟩
  rw [show cs = #[.int .i64 a0, .int .i64 a1, c2, c3, c4, .int .i64 a5] from by
    apply Array.toList_inj.1
    simpa [Value.cells] using hcs]
set_option maxRecDepth 100000 in
theorem open_op {H : Type} {enc : TypeId × Value → H} {w : World} {base b0 : Nat} {spare : Nat → Bool} {held : Bool} {r : Reach} {v : Value} {d : DataW H} {p : List MemPlace}
    (hv : Value.okWide Tryd.prog w r b0 116 v) (h : DataW.Trod enc Tryd.prog w base spare held 116 v d p) :
    ∃ c a b k : Int, v = .agg #[.int .i64 c, .int .i64 a, .int .i64 b, .int .i64 k] ∧ wfI c ∧ wfI a ∧ wfI b ∧ wfI k := by
  obtain ⟨cs, rfl, hsz⟩ := okWide_struct Tryd.underlying116 hv
  obtain ⟨fuel, hf⟩ := h
  obtain ⟨c, a, b, k, e, hw⟩ := trod_op hf
  refine ⟨c, a, b, k, ?_, hw⟩
  rw [show cs = #[.int .i64 c, .int .i64 a, .int .i64 b, .int .i64 k] from by
    apply Array.toList_inj.1
    simpa [Value.cells] using e]
end Go.Proofs.YtbcdfacbhemijaaDoor

/- The law of the text of a model: the walk. -/
namespace Go.Proofs.YtbcdfacbhemijaaDoor.LawExactModelText
open Go.RowKit Go.Proofs.YtbcdfacbhemijaaDoor
theorem OwnB.by {B : Nat} {w : World} {x : Value} {l : List UInt8} (h : OwnB B w x l) : By.OwnI B w x l := h
theorem textR_len (m : Md) : (textR m).length ≤ 1000000000000 := by
  unfold textR
  split
  · rename_i h
    have := mod_len h
    omega
  · simp
theorem sTextB (x : Value) (m : Md) (w : World) (hs : SmallM m) (h : IsM w x m) : Calls Tryd.prog 6 #[x] w fun e w' => ∃ u, e = .returned u ∧ By.OwnI w.heap.size w' u (textR m) ∧ Below w.heap.size w w' := by
  refine (sTextM x m w hs h).mono ?_
  rintro e w' ⟨y, rfl, ho, hb⟩
  exact ⟨y, rfl, OwnB.by ho, hb⟩
theorem iTextB (x : Value) (m : Md) (w : World) (hs : SmallM m) (h : IsM w x m) (htab : Lib.TabIs Tryd.prog w "internal/strconv.uint64pow10" .u64 Lib.pow10Tab) : Calls Tryd.prog 8 #[x] w fun e w' => ∃ u, e = .returned u ∧ By.OwnI w.heap.size w' u (textR m) ∧ Below w.heap.size w w' := by
  refine (iTextM x m w hs h htab).mono ?_
  rintro e w' ⟨y, rfl, ho, hb⟩
  exact ⟨y, rfl, OwnB.by ho, hb⟩

set_option maxRecDepth 100000 in
set_option maxHeartbeats 16000000 in
theorem walk (x : Value) (m : Md) (w : World) (hx : IsM w x m) (htab : Lib.TabIs Tryd.prog w "internal/strconv.uint64pow10" .u64 Lib.pow10Tab) :
    Calls Tryd.prog 3 #[x] w fun e w' => e = .returned (.bool true) ∧ Below w.heap.size w w' := by
  have HX : Hid (IsM w x m) := hx
  have HTB : Hid (Lib.TabIs Tryd.prog w "internal/strconv.uint64pow10" .u64 Lib.pow10Tab) := htab
  clear htab
  obtain ⟨vi, vh, vs, rfl, _⟩ := hx
  obtain ⟨n, hn⟩ : ∃ n, n = m.n := ⟨_, rfl⟩
  obtain ⟨s, hs⟩ : ∃ s, s = m.s := ⟨_, rfl⟩
  obtain ⟨z, hz⟩ : ∃ z, z = m.z := ⟨_, rfl⟩
  rw [← hn, ← hs, ← hz] at HX ⊢
  clear hn hs hz
  obtain ⟨W0, hW0⟩ : ∃ W0, w.alloc (.cells #[.int .i64 n, .int .i64 s, vi, vh, vs, .int .i64 z] 26) = W0 := ⟨_, rfl⟩
  have HB_W0 : Hid (Below w.heap.size w W0) := by rw [← hW0]; exact (Below.refl _ w).alloc (Nat.le_refl _) _
  have HP_W0 : Hid (Bk W0 w.heap.size 26 #[.int .i64 n, .int .i64 s, vi, vh, vs, .int .i64 z]) := by rw [← hW0]; exact Bk.new w _ _
  have HW0 : Hid (w.alloc (.cells #[.int .i64 n, .int .i64 s, vi, vh, vs, .int .i64 z] 26) = W0) := hW0
  clear hW0
  go_enter Tryd.func3, Tryd.ntmps3
  go_wp2_with fail
  rw [HW0.out]
  clear HW0
  refine (szModel_any _ m _ (HX.out.below HB_W0.out)).mono ?_
  rintro e w1 ⟨⟨r, rfl, hr⟩, hb⟩
  have z_w1 : W0.heap.size ≤ w1.heap.size := hb.size
  have HB_w1 : Hid (Below w.heap.size w w1) := HB_W0.out.trans (hb.mono HB_W0.out.size)
  have HP_w1 : Hid (Bk w1 w.heap.size 26 #[.int .i64 n, .int .i64 s, vi, vh, vs, .int .i64 z]) := HP_W0.out.below hb
  clear HB_W0 HP_W0
  clear hb
  rcases hr with rfl | ⟨hr0, hsm⟩
  case inl =>
    go_wp2
    go_ret
    exact ⟨rfl, HB_w1.out⟩
  have hr1 : ¬ (r < 0) := by omega
  have HSM : Hid (SmallM m) := hsm
  clear hsm hr0
  have HC : Hid (∃ r b, r.length ≤ 1000000000000 ∧ (∀ (v0 : Value) (W : World), IsM W v0 m → Calls Tryd.prog 6 #[v0] W fun e w' => ∃ u, e = .returned (u) ∧ By.OwnI W.heap.size w' u r ∧ Below W.heap.size W w') ∧ (∀ (v0 : Value) (W : World), IsM W v0 m → Lib.TabIs Tryd.prog W "internal/strconv.uint64pow10" .u64 Lib.pow10Tab → Calls Tryd.prog 8 #[v0] W fun e w' => ∃ u, e = .returned (u) ∧ By.OwnI W.heap.size w' u r ∧ Below W.heap.size W w') ∧ b = true) := ⟨(textR m), true, textR_len m, fun v0 W h0 => sTextB v0 m W HSM.out h0, fun v0 W h0 h1 => iTextB v0 m W HSM.out h0 h1, rfl⟩
  obtain ⟨r, b, hr0, hsp, him, hbb⟩ := HC.out
  have HSP : Hid (∀ (v0 : Value) (W : World), IsM W v0 m → Calls Tryd.prog 6 #[v0] W fun e w' => ∃ u, e = .returned (u) ∧ By.OwnI W.heap.size w' u r ∧ Below W.heap.size W w') := hsp
  have HIM : Hid (∀ (v0 : Value) (W : World), IsM W v0 m → Lib.TabIs Tryd.prog W "internal/strconv.uint64pow10" .u64 Lib.pow10Tab → Calls Tryd.prog 8 #[v0] W fun e w' => ∃ u, e = .returned (u) ∧ By.OwnI W.heap.size w' u r ∧ Below W.heap.size W w') := him
  clear HC hsp him hbb
  have p0 := HP_w1.out.cell (i := 0) rfl
  have p1 := HP_w1.out.cell (i := 1) rfl
  have p2 := HP_w1.out.cell (i := 2) rfl
  have p3 := HP_w1.out.cell (i := 3) rfl
  have p4 := HP_w1.out.cell (i := 4) rfl
  have p5 := HP_w1.out.cell (i := 5) rfl
  go_wp2_with fail
  clear p0 p1 p2 p3 p4 p5
  refine (toModel_any _ m _ HSM.out (HX.out.below HB_w1.out)).mono ?_
  rintro e w2 ⟨y0, rfl, hb, hr⟩
  have HT_w2 : Hid (MdF (fun k => w1.heap.size ≤ k ∧ k < w2.heap.size) w2 y0 m) := hr
  have z_w2 : w1.heap.size ≤ w2.heap.size := hb.size
  have HB_w2 : Hid (Below w.heap.size w w2) := HB_w1.out.trans (hb.mono HB_w1.out.size)
  have HP_w2 : Hid (Bk w2 w.heap.size 26 #[.int .i64 n, .int .i64 s, vi, vh, vs, .int .i64 z]) := HP_w1.out.below hb
  clear HB_w1 HP_w1
  clear hb hr
  go_wp2_with fail
  refine (HSP.out _ _ HT_w2.out.isM).mono ?_
  rintro e w3 ⟨xs, rfl, ho, hb⟩
  have HS_w3 : Hid (By.LowI w3.heap.size w3 xs r) := ho.isI.low
  have z_w3 : w2.heap.size ≤ w3.heap.size := hb.size
  have HB_w3 : Hid (Below w.heap.size w w3) := HB_w2.out.trans (hb.mono HB_w2.out.size)
  have HP_w3 : Hid (Bk w3 w.heap.size 26 #[.int .i64 n, .int .i64 s, vi, vh, vs, .int .i64 z]) := HP_w2.out.below hb
  clear HB_w2 HP_w2 HT_w2
  clear hb ho HSP
  have hX0 : w.heap.size < w3.heap.size := HP_w3.out.lt
  have p0 := HP_w3.out.cell (i := 0) rfl
  have p1 := HP_w3.out.cell (i := 1) rfl
  have p2 := HP_w3.out.cell (i := 2) rfl
  have p3 := HP_w3.out.cell (i := 3) rfl
  have p4 := HP_w3.out.cell (i := 4) rfl
  have p5 := HP_w3.out.cell (i := 5) rfl
  go_wp2_with fail
  clear p0 p1 p2 p3 p4 p5
  refine (toModel_any _ m _ HSM.out (HX.out.below HB_w3.out)).mono ?_
  rintro e w4 ⟨y1, rfl, hb, hr⟩
  have HR_w4 : Hid (MdF (fun k => w3.heap.size ≤ k ∧ k < w4.heap.size) w4 y1 m) := hr
  have z_w4 : w3.heap.size ≤ w4.heap.size := hb.size
  have HB_w4 : Hid (Below w.heap.size w w4) := HB_w3.out.trans (hb.mono HB_w3.out.size)
  have HP_w4 : Hid (Bk w4 w.heap.size 26 #[.int .i64 n, .int .i64 s, vi, vh, vs, .int .i64 z]) := HP_w3.out.below hb
  have HS_w4 : Hid (By.LowI w3.heap.size w4 xs r) := HS_w3.out.below (hb.mono (by omega))
  clear HB_w3 HP_w3 HS_w3
  clear hb hr
  obtain ⟨aui, cui, auh, cuh, aue, cue, rfl⟩ := HR_w4.out.form
  obtain ⟨Vw4, hVw4⟩ : ∃ V, w4.alloc (.cells #[.int .i64 m.n, .int .i64 m.s, .slice aui m.i.length cui, .slice auh m.h.length cuh, .slice aue m.e.length cue, .int .i64 m.z] 33) = V := ⟨_, rfl⟩
  have HX0_Vw4 : Hid (Bk Vw4 w4.heap.size 33 #[.int .i64 m.n, .int .i64 m.s, .slice aui m.i.length cui, .slice auh m.h.length cuh, .slice aue m.e.length cue, .int .i64 m.z]) := by rw [← hVw4]; exact Bk.new _ _ _
  have hb : Below w4.heap.size w4 Vw4 := by rw [← hVw4]; exact (Below.refl _ _).alloc (Nat.le_refl _) _
  have z_Vw4 : w4.heap.size ≤ Vw4.heap.size := hb.size
  have HB_Vw4 : Hid (Below w.heap.size w Vw4) := HB_w4.out.trans (hb.mono HB_w4.out.size)
  have HP_Vw4 : Hid (Bk Vw4 w.heap.size 26 #[.int .i64 n, .int .i64 s, vi, vh, vs, .int .i64 z]) := HP_w4.out.below hb
  have HS_Vw4 : Hid (By.LowI w3.heap.size Vw4 xs r) := HS_w4.out.below (hb.mono (by omega))
  have HR_Vw4 : Hid (MdF (fun k => w3.heap.size ≤ k ∧ k < w4.heap.size) Vw4 (.agg #[.int .i64 m.n, .int .i64 m.s, .slice aui m.i.length cui, .slice auh m.h.length cuh, .slice aue m.e.length cue, .int .i64 m.z]) m) := HR_w4.out.below hb
  clear HB_w4 HP_w4 HS_w4 HR_w4
  clear hb
  have r0 := HX0_Vw4.out.cell (i := 0) rfl
  have r1 := HX0_Vw4.out.cell (i := 1) rfl
  have r2 := HX0_Vw4.out.cell (i := 2) rfl
  have r3 := HX0_Vw4.out.cell (i := 3) rfl
  have r4 := HX0_Vw4.out.cell (i := 4) rfl
  have r5 := HX0_Vw4.out.cell (i := 5) rfl
  have hV0 : w4.heap.size < Vw4.heap.size := HX0_Vw4.out.lt
  go_wp2_with fail
  clear hVw4
  clear r0 r1 r2 r3 r4 r5
  refine (HIM.out _ _ HR_Vw4.out.isM (tab_kept HTB.out HB_Vw4.out)).mono ?_
  rintro e w5 ⟨xg, rfl, ho, hb⟩
  have HG_w5 : Hid (By.OwnI Vw4.heap.size w5 xg r) := ho
  have z_w5 : Vw4.heap.size ≤ w5.heap.size := hb.size
  have HB_w5 : Hid (Below w.heap.size w w5) := HB_Vw4.out.trans (hb.mono HB_Vw4.out.size)
  have HP_w5 : Hid (Bk w5 w.heap.size 26 #[.int .i64 n, .int .i64 s, vi, vh, vs, .int .i64 z]) := HP_Vw4.out.below hb
  have HS_w5 : Hid (By.LowI w3.heap.size w5 xs r) := HS_Vw4.out.below (hb.mono (by omega))
  have HR_w5 : Hid (MdF (fun k => w3.heap.size ≤ k ∧ k < w4.heap.size) w5 (.agg #[.int .i64 m.n, .int .i64 m.s, .slice aui m.i.length cui, .slice auh m.h.length cuh, .slice aue m.e.length cue, .int .i64 m.z]) m) := HR_Vw4.out.below hb
  have HX0_w5 : Hid (Bk w5 w4.heap.size 33 #[.int .i64 m.n, .int .i64 m.s, .slice aui m.i.length cui, .slice auh m.h.length cuh, .slice aue m.e.length cue, .int .i64 m.z]) := HX0_Vw4.out.below hb
  clear HB_Vw4 HP_Vw4 HS_Vw4 HR_Vw4 HX0_Vw4
  clear hb ho
  go_wp2_with fail
  refine (By.eqI_same _ _ r _ (by omega) HG_w5.out.isI HS_w5.out.isI).mono ?_
  rintro e w6 ⟨rfl, hb⟩
  have z_w6 : w5.heap.size ≤ w6.heap.size := hb.size
  have HB_w6 : Hid (Below w.heap.size w w6) := HB_w5.out.trans (hb.mono HB_w5.out.size)
  have HP_w6 : Hid (Bk w6 w.heap.size 26 #[.int .i64 n, .int .i64 s, vi, vh, vs, .int .i64 z]) := HP_w5.out.below hb
  have HS_w6 : Hid (By.LowI w3.heap.size w6 xs r) := HS_w5.out.below (hb.mono (by omega))
  have HR_w6 : Hid (MdF (fun k => w3.heap.size ≤ k ∧ k < w4.heap.size) w6 (.agg #[.int .i64 m.n, .int .i64 m.s, .slice aui m.i.length cui, .slice auh m.h.length cuh, .slice aue m.e.length cue, .int .i64 m.z]) m) := HR_w5.out.below hb
  have HX0_w6 : Hid (Bk w6 w4.heap.size 33 #[.int .i64 m.n, .int .i64 m.s, .slice aui m.i.length cui, .slice auh m.h.length cuh, .slice aue m.e.length cue, .int .i64 m.z]) := HX0_w5.out.below hb
  have HG_w6 : Hid (By.OwnI Vw4.heap.size w6 xg r) := HG_w5.out.below hb
  clear HB_w5 HP_w5 HS_w5 HR_w5 HX0_w5 HG_w5
  clear hb
  have p0 := HP_w6.out.cell (i := 0) rfl
  have p1 := HP_w6.out.cell (i := 1) rfl
  have p2 := HP_w6.out.cell (i := 2) rfl
  have p3 := HP_w6.out.cell (i := 3) rfl
  have p4 := HP_w6.out.cell (i := 4) rfl
  have p5 := HP_w6.out.cell (i := 5) rfl
  have r0 := HX0_w6.out.cell (i := 0) rfl
  have r1 := HX0_w6.out.cell (i := 1) rfl
  have r2 := HX0_w6.out.cell (i := 2) rfl
  have r3 := HX0_w6.out.cell (i := 3) rfl
  have r4 := HX0_w6.out.cell (i := 4) rfl
  have r5 := HX0_w6.out.cell (i := 5) rfl
  go_wp2_with fail
  have hzz : w.heap.size < w6.heap.size := HP_w6.out.lt
  have hzy : w4.heap.size < w6.heap.size := HX0_w6.out.lt
  go_region_held3 (fun W => W.cell? ⟨w.heap.size, 0, none⟩ = some (.int .i64 n) ∧ W.cell? ⟨w.heap.size, 1, none⟩ = some (.int .i64 s) ∧ W.cell? ⟨w.heap.size, 2, none⟩ = some vi ∧ W.cell? ⟨w.heap.size, 3, none⟩ = some vh ∧ W.cell? ⟨w.heap.size, 4, none⟩ = some vs ∧ W.cell? ⟨w.heap.size, 5, none⟩ = some (.int .i64 z) ∧ W.cell? ⟨w4.heap.size, 0, none⟩ = some (.int .i64 m.n) ∧ W.cell? ⟨w4.heap.size, 1, none⟩ = some (.int .i64 m.s) ∧ W.cell? ⟨w4.heap.size, 2, none⟩ = some (.slice aui m.i.length cui) ∧ W.cell? ⟨w4.heap.size, 3, none⟩ = some (.slice auh m.h.length cuh) ∧ W.cell? ⟨w4.heap.size, 4, none⟩ = some (.slice aue m.e.length cue) ∧ W.cell? ⟨w4.heap.size, 5, none⟩ = some (.int .i64 m.z)) ((repeat' apply And.intro) <;> first | (go_keep; done) | (rw [hcA _ _ (by first | omega | (simp; omega))]; simp [*]; done))
    (first | (go_at_call 7; refine (toModel_any _ m _ HSM.out (HX.out.below HB_w6.out.drew)).mono ?_; rintro e w7 ⟨y2, rfl, hbw7, hr2⟩; obtain ⟨hcA, hfA⟩ := bcell hbw7; have hzw7 : w6.heap.size ≤ w7.heap.size := hbw7.size) | (go_at_call 10; refine (eqModel_same _ _ m _ HSM.out (HR_w6.out.below ((Below.refl _ w6).drew.trans hbw7)).isM hr2.isM).mono ?_; rintro e w8 ⟨rfl, hbw8⟩; obtain ⟨hcA, hfA⟩ := bcell hbw8; have hzw8 : w7.heap.size ≤ w8.heap.size := hbw8.size))
  clear hcA hfA
  have hbc : Below w6.heap.size w6 w8 := (((Below.refl w6.heap.size w6).drew).trans (hbw7.mono (Nat.le_refl _))).trans (hbw8.mono (by omega))
  clear p0 p1 p2 p3 p4 p5
  clear r0 r1 r2 r3 r4 r5
  have z_w8 : w6.heap.size ≤ w8.heap.size := hbc.size
  have HB_w8 : Hid (Below w.heap.size w w8) := HB_w6.out.trans (hbc.mono HB_w6.out.size)
  have HP_w8 : Hid (Bk w8 w.heap.size 26 #[.int .i64 n, .int .i64 s, vi, vh, vs, .int .i64 z]) := HP_w6.out.below hbc
  have HS_w8 : Hid (By.LowI w3.heap.size w8 xs r) := HS_w6.out.below (hbc.mono (by omega))
  have HR_w8 : Hid (MdF (fun k => w3.heap.size ≤ k ∧ k < w4.heap.size) w8 (.agg #[.int .i64 m.n, .int .i64 m.s, .slice aui m.i.length cui, .slice auh m.h.length cuh, .slice aue m.e.length cue, .int .i64 m.z]) m) := HR_w6.out.below hbc
  have HX0_w8 : Hid (Bk w8 w4.heap.size 33 #[.int .i64 m.n, .int .i64 m.s, .slice aui m.i.length cui, .slice auh m.h.length cuh, .slice aue m.e.length cue, .int .i64 m.z]) := HX0_w6.out.below hbc
  have HG_w8 : Hid (By.OwnI Vw4.heap.size w8 xg r) := HG_w6.out.below hbc
  clear HB_w6 HP_w6 HS_w6 HR_w6 HX0_w6 HG_w6
  clear hbc hr2 hbw7 hzw7 hbw8 hzw8 hzz hzy
  have r0 := HX0_w8.out.cell (i := 0) rfl
  have r1 := HX0_w8.out.cell (i := 1) rfl
  have r2 := HX0_w8.out.cell (i := 2) rfl
  have r3 := HX0_w8.out.cell (i := 3) rfl
  have r4 := HX0_w8.out.cell (i := 4) rfl
  have r5 := HX0_w8.out.cell (i := 5) rfl
  go_wp2_with fail
  clear r0 r1 r2 r3 r4 r5
  have hc0 : w4.heap.size < w8.heap.size := HX0_w8.out.lt
  have hc1 : Vw4.heap.size ≤ w8.heap.size := by omega
  refine (markModel_any HSM.out HR_w8.out (fun k e => by omega)).mono ?_
  rintro e w9 ⟨rfl, _, ht⟩
  have z_w9 : w8.heap.size ≤ w9.heap.size := ht.size
  have hbx : Below w3.heap.size w8 w9 := ht.to_below (fun k e => by omega) (by omega)
  have HB_w9 : Hid (Below w.heap.size w w9) := HB_w8.out.trans (hbx.mono (by omega))
  have HS_w9 : Hid (By.LowI w3.heap.size w9 xs r) := HS_w8.out.below hbx
  have HG_w9 : Hid (By.OwnI Vw4.heap.size w9 xg r) := HG_w8.out.turns ht (fun k e => by omega)
  have HP_w9 : Hid (Bk w9 w.heap.size 26 #[.int .i64 n, .int .i64 s, vi, vh, vs, .int .i64 z]) := HP_w8.out.turns ht (fun e => by omega)
  have hkn : ¬ (markNo m < 0) := by have := markNo_pos m; omega
  clear ht hbx HB_w8 HS_w8 HG_w8 HP_w8 HR_w8 HX0_w8
  go_wp2_with fail
  refine (By.eqI_same _ _ r _ (by omega) HG_w9.out.isI HS_w9.out.isI).mono ?_
  rintro e w10 ⟨rfl, hb⟩
  have z_w10 : w9.heap.size ≤ w10.heap.size := hb.size
  have HB_w10 : Hid (Below w.heap.size w w10) := HB_w9.out.trans (hb.mono HB_w9.out.size)
  have HP_w10 : Hid (Bk w10 w.heap.size 26 #[.int .i64 n, .int .i64 s, vi, vh, vs, .int .i64 z]) := HP_w9.out.below hb
  have HS_w10 : Hid (By.LowI w3.heap.size w10 xs r) := HS_w9.out.below (hb.mono (by omega))
  have HG_w10 : Hid (By.OwnI Vw4.heap.size w10 xg r) := HG_w9.out.below hb
  clear HB_w9 HP_w9 HS_w9 HG_w9
  clear hb
  go_wp2_with fail
  refine (By.markI_own HG_w10.out (by omega)).mono ?_
  rintro e w11 ⟨mm, hm, rfl, hh, ht⟩
  have hbt : Below Vw4.heap.size w10 w11 := ht.below (by omega)
  have z_w11 : w10.heap.size ≤ w11.heap.size := hbt.size
  have hmn : ¬ (mm < 0) := by omega
  have HB_w11 : Hid (Below w.heap.size w w11) := HB_w10.out.trans (hbt.mono (by omega))
  have HS_w11 : Hid (By.LowI w3.heap.size w11 xs r) := HS_w10.out.below (hbt.mono (by omega))
  have HP_w11 : Hid (Bk w11 w.heap.size 26 #[.int .i64 n, .int .i64 s, vi, vh, vs, .int .i64 z]) := HP_w10.out.keep hbt (by omega)
  have HH_w11 : Hid (By.HeldI w11 xg mm) := hh
  clear hh ht hbt HB_w10 HS_w10 HG_w10 HP_w10
  go_wp2_with fail
  refine (By.heldI_in HH_w11.out).mono ?_
  rintro e w' ⟨rfl, hw⟩
  have hw' := hw.symm
  clear hw
  subst hw'
  have p0 := HP_w11.out.cell (i := 0) rfl
  have p1 := HP_w11.out.cell (i := 1) rfl
  have p2 := HP_w11.out.cell (i := 2) rfl
  have p3 := HP_w11.out.cell (i := 3) rfl
  have p4 := HP_w11.out.cell (i := 4) rfl
  have p5 := HP_w11.out.cell (i := 5) rfl
  go_wp2_with fail
  clear p0 p1 p2 p3 p4 p5
  refine (toModel_any _ m _ HSM.out (HX.out.below HB_w11.out)).mono ?_
  rintro e w12 ⟨y3, rfl, hb, hr⟩
  have HT_w12 : Hid (MdF (fun k => w11.heap.size ≤ k ∧ k < w12.heap.size) w12 y3 m) := hr
  have z_w12 : w11.heap.size ≤ w12.heap.size := hb.size
  have HB_w12 : Hid (Below w.heap.size w w12) := HB_w11.out.trans (hb.mono HB_w11.out.size)
  have HP_w12 : Hid (Bk w12 w.heap.size 26 #[.int .i64 n, .int .i64 s, vi, vh, vs, .int .i64 z]) := HP_w11.out.below hb
  have HS_w12 : Hid (By.LowI w3.heap.size w12 xs r) := HS_w11.out.below (hb.mono (by omega))
  have HH_w12 : Hid (By.HeldI w12 xg mm) := HH_w11.out.below hb
  clear HB_w11 HP_w11 HS_w11 HH_w11
  clear hb hr
  go_wp2_with fail
  refine (HIM.out _ _ HT_w12.out.isM (tab_kept HTB.out HB_w12.out)).mono ?_
  rintro e w13 ⟨xh, rfl, ho, hb⟩
  have HK_w13 : Hid (By.IsI w13 xh r) := ho.isI
  have z_w13 : w12.heap.size ≤ w13.heap.size := hb.size
  have HB_w13 : Hid (Below w.heap.size w w13) := HB_w12.out.trans (hb.mono HB_w12.out.size)
  have HP_w13 : Hid (Bk w13 w.heap.size 26 #[.int .i64 n, .int .i64 s, vi, vh, vs, .int .i64 z]) := HP_w12.out.below hb
  have HS_w13 : Hid (By.LowI w3.heap.size w13 xs r) := HS_w12.out.below (hb.mono (by omega))
  have HH_w13 : Hid (By.HeldI w13 xg mm) := HH_w12.out.below hb
  clear HB_w12 HP_w12 HS_w12 HH_w12 HT_w12
  clear hb ho HIM
  go_wp2_with fail
  refine (By.eqI_same _ _ r _ (by omega) HK_w13.out HS_w13.out.isI).mono ?_
  rintro e w14 ⟨rfl, hb⟩
  have z_w14 : w13.heap.size ≤ w14.heap.size := hb.size
  have HB_w14 : Hid (Below w.heap.size w w14) := HB_w13.out.trans (hb.mono HB_w13.out.size)
  have HP_w14 : Hid (Bk w14 w.heap.size 26 #[.int .i64 n, .int .i64 s, vi, vh, vs, .int .i64 z]) := HP_w13.out.below hb
  have HS_w14 : Hid (By.LowI w3.heap.size w14 xs r) := HS_w13.out.below (hb.mono (by omega))
  have HH_w14 : Hid (By.HeldI w14 xg mm) := HH_w13.out.below hb
  clear HB_w13 HP_w13 HS_w13 HH_w13
  clear hb
  clear HK_w13
  go_wp2_with fail
  refine (By.heldI_in HH_w14.out).mono ?_
  rintro e w' ⟨rfl, hw⟩
  have hw' := hw.symm
  clear hw
  subst hw'
  go_wp2
  go_ret
  exact ⟨rfl, HB_w14.out⟩

end Go.Proofs.YtbcdfacbhemijaaDoor.LawExactModelText

