/- KOp, WOp -/
import Derived.Test.YtnlhcdchmgfipaaGreatExactWorldOkG46
import Derived.Test.YtnlhcdchmgfipaaGreatExactWorldOkG06
/- How a kernel that came in is read. -/
namespace Go.Proofs.YtnlhcdchmgfipaaGreat
open Go.ChangeShapes Go.WideShapes Go.ChangeAt Go.RowKit
theorem cellsBool : Tryz.prog.cellsOf 4 = 1 := by kernel_rfl
theorem cellsMl1 : Tryz.prog.cellsOf 153 = 8 := by kernel_rfl
theorem cellsMls : Tryz.prog.cellsOf 28 = 1 := by kernel_rfl
theorem cellsPas : Tryz.prog.cellsOf 27 = 1 := by kernel_rfl
theorem cellsKn : Tryz.prog.cellsOf 31 = 14 := by kernel_rfl
theorem list8k {α : Type} {l : List α} (h : l.length = 8) : ∃ a0 a1 a2 a3 a4 a5 a6 a7, l = [a0, a1, a2, a3, a4, a5, a6, a7] := by
 match l, h with
 | [a0, a1, a2, a3, a4, a5, a6, a7], _ => exact ⟨a0, a1, a2, a3, a4, a5, a6, a7, rfl⟩
theorem list2k {α : Type} {l : List α} (h : l.length = 2) : ∃ a0 a1, l = [a0, a1] := by
 match l, h with
 | [a0, a1], _ => exact ⟨a0, a1, rfl⟩
theorem list14k {α : Type} {l : List α} (h : l.length = 14) : ∃ a0 a1 a2 a3 a4 a5 a6 a7 a8 a9 a10 a11 a12 a13, l = [a0, a1, a2, a3, a4, a5, a6, a7, a8, a9, a10, a11, a12, a13] := by
 match l, h with
 | [a0, a1, a2, a3, a4, a5, a6, a7, a8, a9, a10, a11, a12, a13], _ => exact ⟨a0, a1, a2, a3, a4, a5, a6, a7, a8, a9, a10, a11, a12, a13, rfl⟩
theorem list9k {α : Type} {l : List α} (h : l.length = 9) : ∃ a0 a1 a2 a3 a4 a5 a6 a7 a8, l = [a0, a1, a2, a3, a4, a5, a6, a7, a8] := by
 match l, h with
 | [a0, a1, a2, a3, a4, a5, a6, a7, a8], _ => exact ⟨a0, a1, a2, a3, a4, a5, a6, a7, a8, rfl⟩
set_option maxRecDepth 100000 in
theorem trod_mail {H : Type} {enc : TypeId × Value → H} {w : World} {spare : Nat → Bool} {held : Bool} {fuel : Nat} {cs : List Value} {x : DataW H × List MemPlace}
  (h : DataW.trod enc Tryz.prog w 0 spare held fuel 153 cs = some x) : ∃ m : Ml, cs = m.cs := by
 obtain ⟨xs, n, _, _, hl, hlen, hf⟩ := DataW.trod_struct Tryz.underlying153 h
 rw [cellsMl1] at hl
 obtain ⟨c0, c1, c2, c3, c4, c5, c6, c7, rfl⟩ := list8k hl
 have hx : xs.length = 2 := by simpa using hlen
 obtain ⟨y0, y1, rfl⟩ := list2k hx
 have h0 := hf 0 _ rfl
 have h1 := hf 1 _ rfl
 obtain ⟨t, s, q, d, k, v, g, e0, _⟩ := trod_ev h0
 obtain ⟨a1, e1, _⟩ := DataW.trod_bool Tryz.underlying4 h1
 simp [cells23, cellsBool] at e0 e1
 obtain ⟨rfl, rfl, rfl, rfl, rfl, rfl, rfl⟩ := e0
 subst e1
 exact ⟨⟨⟨t, s, q, d, k, v, g⟩, a1⟩, rfl⟩
theorem ml_list {w : World} {b off : Nat} : ∀ n, (∀ i, i < n → ∃ e : Ml, MlAt w b (off + i * 8) e) → ∃ l : List Ml, l.length = n ∧ ∀ i, i < n → MlAt w b (off + i * 8) (mlAt l i)
 | 0, _ => ⟨[], rfl, fun i hi => by omega⟩
 | n + 1, h => by
  obtain ⟨l, hl, hi⟩ := ml_list n (fun i hi => h i (by omega))
  obtain ⟨e, he⟩ := h n (by omega)
  refine ⟨l ++ [e], by simp [hl], fun i hi' => ?_⟩
  by_cases hin : i < n
  ·have : mlAt (l ++ [e]) i = mlAt l i := by unfold mlAt; simp [List.getElem?_append_left (by omega : i < l.length)]
   rw [this]; exact hi i hin
  ·have : mlAt (l ++ [e]) i = e := by unfold mlAt; simp [show i = l.length by omega]
   rw [this, show i = n by omega]; exact he
set_option maxRecDepth 100000 in
theorem trod_mails {H : Type} {enc : TypeId × Value → H} {w : World} {spare : Nat → Bool} {held : Bool} {fuel : Nat} {cs : List Value} {x : DataW H × List MemPlace}
  (hf : DataW.trod enc Tryz.prog w 0 spare held fuel 28 cs = some x) : ∃ v l, cs = [v] ∧ IsMl w v l := by
 rcases DataW.trod_slice Tryz.underlying28 hf with ⟨rfl, _⟩ | ⟨a, len, cap, elems, rest, n, _, rfl, _, hb, hl, hm, hlen, hel, _, _⟩
 ·exact ⟨_, [], rfl, none, 0, rfl, Nat.le_refl _, by unfold maxLen; omega, .inl rfl⟩
 ·by_cases h0 : len = 0
  ·subst h0
   exact ⟨_, [], rfl, _, _, rfl, hl, hm, .inl rfl⟩
  ·obtain ⟨b, off, spot⟩ := a
   have hs : spot = none := by
    have h1 := hel 0 (by omega)
    rw [cellsMl1, List.getElem?_eq_getElem (by omega)] at h1
    obtain ⟨cs, hc, ht⟩ := Option.bind_eq_some_iff.1 h1
    obtain ⟨m, rfl⟩ := trod_mail ht
    have c0 := (World.cells?_some hc).2.2 0 (by omega)
    simpa [Addr.add] using World.cell?_spot c0
   subst hs
   have each : ∀ i, i < len → ∃ e : Ml, MlAt w b (off + i * 8) e ∧ b < w.heap.size := by
    intro i hi
    have h1 := hel i hi
    rw [cellsMl1, List.getElem?_eq_getElem (by omega), add_plain] at h1
    obtain ⟨cs, hc, ht⟩ := Option.bind_eq_some_iff.1 h1
    obtain ⟨m, rfl⟩ := trod_mail ht
    have hblk : b < w.heap.size := World.cells?_block hc (by omega)
    obtain ⟨_, _, hcell⟩ := World.cells?_some hc
    simp only [add_plain] at hcell
    exact ⟨m, ⟨hcell 0 (by omega), hcell 1 (by omega), hcell 2 (by omega), hcell 3 (by omega), hcell 4 (by omega), hcell 5 (by omega), hcell 6 (by omega), hcell 7 (by omega)⟩, hblk⟩
   obtain ⟨_, _, hblk⟩ := each 0 (by omega)
   obtain ⟨l, rfl, hi⟩ := ml_list (w := w) (b := b) (off := off) len (fun i hi => by
    obtain ⟨e, he, _⟩ := each i hi
    exact ⟨e, he⟩)
   exact ⟨_, l, rfl, _, _, rfl, hl, hm, .inr ⟨b, off, rfl, hblk, hi⟩⟩
set_option maxRecDepth 100000 in
theorem trod_part {H : Type} {enc : TypeId × Value → H} {w : World} {spare : Nat → Bool} {held : Bool} {fuel : Nat} {cs : List Value} {x : DataW H × List MemPlace}
  (h : DataW.trod enc Tryz.prog w 0 spare held fuel 135 cs = some x) : ∃ (p : Pa) (u1 u4 u5 u6 : Value), cs = [.int .i64 p.n, u1, .int .i64 p.st.q, .int .i64 p.st.d, u4, u5, u6] ∧ IsD w u1 (intsD p.st.r) ∧ IsD w u4 (pastsD p.p) ∧ IsD w u5 (evsD p.t) ∧ IsD w u6 (intsD p.a) := by
 obtain ⟨xs, n, _, _, hl, hlen, hf⟩ := DataW.trod_struct Tryz.underlying135 h
 rw [cellsPa] at hl
 obtain ⟨c0, c1, c2, c3, c4, c5, c6, rfl⟩ := list7p hl
 have hx : xs.length = 5 := by simpa using hlen
 obtain ⟨y0, y1, y2, y3, y4, rfl⟩ := list5 hx
 have h0 := hf 0 _ rfl
 have h1 := hf 1 _ rfl
 have h2 := hf 2 _ rfl
 have h3 := hf 3 _ rfl
 have h4 := hf 4 _ rfl
 obtain ⟨a0, e0, _, _⟩ := DataW.trod_int Tryz.underlying3 h0
 obtain ⟨st, v1, e1, g1⟩ := trod_state h1
 obtain ⟨v2, l2, e2, g2⟩ := trod_pasts h2
 obtain ⟨v3, l3, e3, g3⟩ := trod_evs h3
 obtain ⟨v4, l4, e4, g4⟩ := trod_ints h4
 simp [cells3, cellsS, cellsPss, cellsEvs, cellsInts] at e0 e1 e2 e3 e4
 obtain ⟨rfl, rfl, rfl⟩ := e1
 subst e0 e2 e3 e4
 exact ⟨⟨a0, st, l2, l3, l4⟩, c1, c4, c5, c6, rfl, g1.isD, g2, g3.isD, g4.isD⟩
theorem pa_list {w : World} {b off : Nat} : ∀ n, (∀ i, i < n → ∃ p : Pa, ∀ r, r < 7 → ∃ u, w.cell? ⟨b, off + i * 7 + r, none⟩ = some u ∧ IsD w u (p.cell r)) →
  ∃ l : List Pa, l.length = n ∧ ∀ i, i < n → ∀ r, r < 7 → ∃ u, w.cell? ⟨b, off + i * 7 + r, none⟩ = some u ∧ IsD w u ((paAt l i).cell r)
 | 0, _ => ⟨[], rfl, fun i hi => by omega⟩
 | n + 1, h => by
  obtain ⟨l, hl, hi⟩ := pa_list n (fun i hi => h i (by omega))
  obtain ⟨e, he⟩ := h n (by omega)
  refine ⟨l ++ [e], by simp [hl], fun i hi' => ?_⟩
  by_cases hin : i < n
  ·have : paAt (l ++ [e]) i = paAt l i := by unfold paAt; simp [List.getElem?_append_left (by omega : i < l.length)]
   rw [this]; exact hi i hin
  ·have : paAt (l ++ [e]) i = e := by unfold paAt; simp [show i = l.length by omega]
   rw [this, show i = n by omega]; exact he
set_option maxRecDepth 100000 in
theorem trod_parts {H : Type} {enc : TypeId × Value → H} {w : World} {spare : Nat → Bool} {held : Bool} {fuel : Nat} {cs : List Value} {x : DataW H × List MemPlace}
  (hf : DataW.trod enc Tryz.prog w 0 spare held fuel 27 cs = some x) : ∃ v l, cs = [v] ∧ IsD w v (partsD l) := by
 rcases DataW.trod_slice Tryz.underlying27 hf with ⟨rfl, _⟩ | ⟨a, len, cap, elems, rest, n, _, rfl, _, hb, hl, hm, hlen, hel, _, _⟩
 ·exact ⟨_, [], rfl, .nil none 0 7 _ (by unfold maxLen; omega)⟩
 ·by_cases h0 : len = 0
  ·subst h0
   exact ⟨_, [], rfl, .nil _ _ 7 _ hm⟩
  ·obtain ⟨b, off, spot⟩ := a
   have hs : spot = none := by
    have h1 := hel 0 (by omega)
    rw [cellsPa, List.getElem?_eq_getElem (by omega)] at h1
    obtain ⟨cs, hc, ht⟩ := Option.bind_eq_some_iff.1 h1
    obtain ⟨p, u1, u4, u5, u6, rfl, _⟩ := trod_part ht
    have c0 := (World.cells?_some hc).2.2 0 (by omega)
    simpa [Addr.add] using World.cell?_spot c0
   subst hs
   have each : ∀ i, i < len → ∃ p : Pa, (∀ r, r < 7 → ∃ u, w.cell? ⟨b, off + i * 7 + r, none⟩ = some u ∧ IsD w u (p.cell r)) ∧ b < w.heap.size := by
    intro i hi
    have h1 := hel i hi
    rw [cellsPa, List.getElem?_eq_getElem (by omega), add_plain] at h1
    obtain ⟨cs, hc, ht⟩ := Option.bind_eq_some_iff.1 h1
    obtain ⟨p, u1, u4, u5, u6, rfl, g1, g4, g5, g6⟩ := trod_part ht
    have hblk : b < w.heap.size := World.cells?_block hc (by omega)
    obtain ⟨_, _, hcell⟩ := World.cells?_some hc
    simp only [add_plain] at hcell
    refine ⟨p, fun r hr => ?_, hblk⟩
    have hcr := hcell r hr
    match r, hr, hcr with
    | 0, _, hcr => exact ⟨_, hcr, .val _⟩
    | 1, _, hcr => exact ⟨_, hcr, g1⟩
    | 2, _, hcr => exact ⟨_, hcr, .val _⟩
    | 3, _, hcr => exact ⟨_, hcr, .val _⟩
    | 4, _, hcr => exact ⟨_, hcr, g4⟩
    | 5, _, hcr => exact ⟨_, hcr, g5⟩
    | 6, _, hcr => exact ⟨_, hcr, g6⟩
   obtain ⟨_, _, hblk⟩ := each 0 (by omega)
   obtain ⟨l, rfl, hi⟩ := pa_list (w := w) (b := b) (off := off) len (fun i hi => by
    obtain ⟨e, he, _⟩ := each i hi
    exact ⟨e, he⟩)
   refine ⟨_, l, rfl, IsD.of_parts hl hm (.inr ⟨b, off, rfl, hblk, fun j hj => ?_⟩)⟩
   obtain ⟨u, hu, hd⟩ := hi (j / 7) (by omega) (j % 7) (by omega)
   refine ⟨u, ?_, hd⟩
   rw [← hu]
   congr 2
   omega
set_option maxRecDepth 100000 in
theorem trod_model {H : Type} {enc : TypeId × Value → H} {w : World} {spare : Nat → Bool} {held : Bool} {fuel : Nat} {cs : List Value} {x : DataW H × List MemPlace}
  (h : DataW.trod enc Tryz.prog w 0 spare held fuel 26 cs = some x) : ∃ (m : Md) (vi vh vs : Value), cs = [.int .i64 m.n, .int .i64 m.s, vi, vh, vs, .int .i64 m.z] ∧ IsI w vi m.i ∧ IsH w vh m.h ∧ IsEvs w vs m.e := by
 obtain ⟨xs, n, _, _, hl, hlen, hf⟩ := DataW.trod_struct Tryz.underlying26 h
 rw [cellsM] at hl
 obtain ⟨c0, c1, c2, c3, c4, c5, rfl⟩ := list6 hl
 have hx : xs.length = 6 := by simpa using hlen
 obtain ⟨y0, y1, y2, y3, y4, y5, rfl⟩ := list6 hx
 have h0 := hf 0 _ rfl
 have h1 := hf 1 _ rfl
 have h2 := hf 2 _ rfl
 have h3 := hf 3 _ rfl
 have h4 := hf 4 _ rfl
 have h5 := hf 5 _ rfl
 obtain ⟨a0, e0, _, _⟩ := DataW.trod_int Tryz.underlying3 h0
 obtain ⟨a1, e1, _, _⟩ := DataW.trod_int Tryz.underlying3 h1
 obtain ⟨v2, l2, e2, g2⟩ := trod_ints h2
 obtain ⟨v3, l3, e3, g3⟩ := trod_hs h3
 obtain ⟨v4, l4, e4, g4⟩ := trod_evs h4
 obtain ⟨a5, e5, _, _⟩ := DataW.trod_int Tryz.underlying3 h5
 simp [cells3, cellsInts, cellsRows, cellsEvs] at e0 e1 e2 e3 e4 e5
 subst e0 e1 e2 e3 e4 e5
 exact ⟨⟨a0, a1, l2, l3, l4, a5⟩, c2, c3, c4, rfl, g2, g3, g4⟩
end Go.Proofs.YtnlhcdchmgfipaaGreat

/- How a world that came in is read. -/
namespace Go.Proofs.YtnlhcdchmgfipaaGreat
open Go.ChangeShapes Go.WideShapes Go.ChangeAt Go.RowKit
theorem cellsKns : Tryz.prog.cellsOf 52 = 1 := by kernel_rfl
theorem cellsVcs : Tryz.prog.cellsOf 53 = 1 := by kernel_rfl
theorem cellsWd : Tryz.prog.cellsOf 55 = 8 := by kernel_rfl
theorem list3k {α : Type} {l : List α} (h : l.length = 3) : ∃ a0 a1 a2, l = [a0, a1, a2] := by
 match l, h with
 | [a0, a1, a2], _ => exact ⟨a0, a1, a2, rfl⟩
set_option maxRecDepth 100000 in
theorem trod_kernel {H : Type} {enc : TypeId × Value → H} {w : World} {spare : Nat → Bool} {held : Bool} {fuel : Nat} {cs : List Value} {x : DataW H × List MemPlace}
  (h : DataW.trod enc Tryz.prog w 0 spare held fuel 31 cs = some x) : ∃ (k : Kn) (vi vh vs u6 u7 u8 u12 u13 : Value), cs = [.int .i64 k.m.n, .int .i64 k.m.s, vi, vh, vs, .int .i64 k.m.z, u6, u7, u8, .int .i64 k.t, .int .i64 k.q, .bool k.f, u12, u13] ∧ IsKern w (.agg #[.int .i64 k.m.n, .int .i64 k.m.s, vi, vh, vs, .int .i64 k.m.z, u6, u7, u8, .int .i64 k.t, .int .i64 k.q, .bool k.f, u12, u13]) k := by
 obtain ⟨xs, n, _, _, hl, hlen, hf⟩ := DataW.trod_struct Tryz.underlying31 h
 rw [cellsKn] at hl
 obtain ⟨c0, c1, c2, c3, c4, c5, c6, c7, c8, c9, c10, c11, c12, c13, rfl⟩ := list14k hl
 have hx : xs.length = 9 := by simpa using hlen
 obtain ⟨y0, y1, y2, y3, y4, y5, y6, y7, y8, rfl⟩ := list9k hx
 have h0 := hf 0 _ rfl
 have h1 := hf 1 _ rfl
 have h2 := hf 2 _ rfl
 have h3 := hf 3 _ rfl
 have h4 := hf 4 _ rfl
 have h5 := hf 5 _ rfl
 have h6 := hf 6 _ rfl
 have h7 := hf 7 _ rfl
 have h8 := hf 8 _ rfl
 obtain ⟨m, vi, vh, vs, e0, gi, gh, ge⟩ := trod_model h0
 obtain ⟨v1, l1, e1, g1⟩ := trod_ints h1
 obtain ⟨v2, l2, e2, g2⟩ := trod_parts h2
 obtain ⟨v3, l3, e3, g3⟩ := trod_mails h3
 obtain ⟨a4, e4, _, _⟩ := DataW.trod_int Tryz.underlying3 h4
 obtain ⟨a5, e5, _, _⟩ := DataW.trod_int Tryz.underlying3 h5
 obtain ⟨a6, e6, _⟩ := DataW.trod_bool Tryz.underlying4 h6
 obtain ⟨v7, l7, e7, g7⟩ := trod_evs h7
 obtain ⟨v8, l8, e8, g8⟩ := trod_ems h8
 simp [cells3, cellsM, cellsInts, cellsPas, cellsMls, cellsBool, cellsEvs, cellsEms] at e0 e1 e2 e3 e4 e5 e6 e7 e8
 obtain ⟨rfl, rfl, rfl, rfl, rfl, rfl⟩ := e0
 subst e1 e2 e3 e4 e5 e6 e7 e8
 exact ⟨⟨m, l1, l2, l3, a4, a5, a6, l7, l8⟩, c2, c3, c4, c6, c7, c8, c12, c13, rfl, c2, c3, c4, c6, c7, c8, c12, c13, rfl, ⟨_, _, _, rfl, gi, gh, ge⟩, g1.isD, g2, g3.isD, g7.isD, g8.isD⟩
theorem kn_list {w : World} {b off : Nat} : ∀ n, (∀ i, i < n → ∃ k : Kn, KAt w b (off + i * 14) k) → ∃ l : List Kn, l.length = n ∧ ∀ i, i < n → KAt w b (off + i * 14) (knAt l i)
 | 0, _ => ⟨[], rfl, fun i hi => by omega⟩
 | n + 1, h => by
  obtain ⟨l, hl, hi⟩ := kn_list n (fun i hi => h i (by omega))
  obtain ⟨e, he⟩ := h n (by omega)
  refine ⟨l ++ [e], by simp [hl], fun i hi' => ?_⟩
  by_cases hin : i < n
  ·have : knAt (l ++ [e]) i = knAt l i := by unfold knAt; simp [List.getElem?_append_left (by omega : i < l.length)]
   rw [this]; exact hi i hin
  ·have : knAt (l ++ [e]) i = e := by unfold knAt; simp [show i = l.length by omega]
   rw [this, show i = n by omega]; exact he
theorem v_list {w : World} {b off : Nat} : ∀ n, (∀ i, i < n → ∃ (u : Value) (d : List Int), w.cell? ⟨b, off + i, none⟩ = some u ∧ IsI w u d) → ∃ l : List (List Int), l.length = n ∧ ∀ i, i < n → ∃ u, w.cell? ⟨b, off + i, none⟩ = some u ∧ IsI w u (vAt l i)
 | 0, _ => ⟨[], rfl, fun i hi => by omega⟩
 | n + 1, h => by
  obtain ⟨l, hl, hi⟩ := v_list n (fun i hi => h i (by omega))
  obtain ⟨u, e, hu, he⟩ := h n (by omega)
  refine ⟨l ++ [e], by simp [hl], fun i hi' => ?_⟩
  by_cases hin : i < n
  ·have : vAt (l ++ [e]) i = vAt l i := by unfold vAt; simp [List.getElem?_append_left (by omega : i < l.length)]
   rw [this]; exact hi i hin
  ·have : vAt (l ++ [e]) i = e := by unfold vAt; simp [show i = l.length by omega]
   rw [this, show i = n by omega]; exact ⟨u, hu, he⟩
set_option maxRecDepth 100000 in
theorem trod_kernels {H : Type} {enc : TypeId × Value → H} {w : World} {spare : Nat → Bool} {held : Bool} {fuel : Nat} {cs : List Value} {x : DataW H × List MemPlace}
  (hf : DataW.trod enc Tryz.prog w 0 spare held fuel 52 cs = some x) : ∃ v l, cs = [v] ∧ IsKs w v l := by
 rcases DataW.trod_slice Tryz.underlying52 hf with ⟨rfl, _⟩ | ⟨a, len, cap, elems, rest, n, _, rfl, _, hb, hl, hm, hlen, hel, _, _⟩
 ·exact ⟨_, [], rfl, none, 0, rfl, Nat.le_refl _, by unfold maxLen; omega, .inl rfl⟩
 ·by_cases h0 : len = 0
  ·subst h0
   exact ⟨_, [], rfl, _, _, rfl, hl, hm, .inl rfl⟩
  ·obtain ⟨b, off, spot⟩ := a
   have hs : spot = none := by
    have h1 := hel 0 (by omega)
    rw [cellsKn, List.getElem?_eq_getElem (by omega)] at h1
    obtain ⟨cs, hc, ht⟩ := Option.bind_eq_some_iff.1 h1
    obtain ⟨k, vi, vh, vs, u6, u7, u8, u12, u13, rfl, _⟩ := trod_kernel ht
    have c0 := (World.cells?_some hc).2.2 0 (by omega)
    simpa [Addr.add] using World.cell?_spot c0
   subst hs
   have each : ∀ i, i < len → ∃ k : Kn, KAt w b (off + i * 14) k ∧ b < w.heap.size := by
    intro i hi
    have h1 := hel i hi
    rw [cellsKn, List.getElem?_eq_getElem (by omega), add_plain] at h1
    obtain ⟨cs, hc, ht⟩ := Option.bind_eq_some_iff.1 h1
    obtain ⟨k, vi, vh, vs, u6, u7, u8, u12, u13, rfl, hk⟩ := trod_kernel ht
    have hblk : b < w.heap.size := World.cells?_block hc (by omega)
    obtain ⟨_, _, hcell⟩ := World.cells?_some hc
    simp only [add_plain] at hcell
    exact ⟨k, ⟨vi, vh, vs, u6, u7, u8, u12, u13, ⟨hcell 0 (by omega), hcell 1 (by omega), hcell 2 (by omega), hcell 3 (by omega), hcell 4 (by omega), hcell 5 (by omega), hcell 6 (by omega), hcell 7 (by omega), hcell 8 (by omega), hcell 9 (by omega), hcell 10 (by omega), hcell 11 (by omega), hcell 12 (by omega), hcell 13 (by omega)⟩, hk⟩, hblk⟩
   obtain ⟨_, _, hblk⟩ := each 0 (by omega)
   obtain ⟨l, rfl, hi⟩ := kn_list (w := w) (b := b) (off := off) len (fun i hi => by
    obtain ⟨e, he, _⟩ := each i hi
    exact ⟨e, he⟩)
   exact ⟨_, l, rfl, _, _, rfl, hl, hm, .inr ⟨b, off, rfl, hblk, hi⟩⟩
set_option maxRecDepth 100000 in
theorem trod_vecs {H : Type} {enc : TypeId × Value → H} {w : World} {spare : Nat → Bool} {held : Bool} {fuel : Nat} {cs : List Value} {x : DataW H × List MemPlace}
  (hf : DataW.trod enc Tryz.prog w 0 spare held fuel 53 cs = some x) : ∃ v l, cs = [v] ∧ IsD w v (vecsD l) := by
 rcases DataW.trod_slice Tryz.underlying53 hf with ⟨rfl, _⟩ | ⟨a, len, cap, elems, rest, n, _, rfl, _, hb, hl, hm, hlen, hel, _, _⟩
 ·exact ⟨_, [], rfl, .nil none 0 1 _ (by unfold maxLen; omega)⟩
 ·by_cases h0 : len = 0
  ·subst h0
   exact ⟨_, [], rfl, .nil _ _ 1 _ hm⟩
  ·obtain ⟨b, off, spot⟩ := a
   have hs : spot = none := by
    have h1 := hel 0 (by omega)
    rw [cellsInts, List.getElem?_eq_getElem (by omega)] at h1
    obtain ⟨cs, hc, ht⟩ := Option.bind_eq_some_iff.1 h1
    obtain ⟨v, l, rfl, _⟩ := trod_ints ht
    have c0 := (World.cells?_some hc).2.2 0 (by omega)
    simpa [Addr.add] using World.cell?_spot c0
   subst hs
   have each : ∀ i, i < len → ∃ (u : Value) (l : List Int), (w.cell? ⟨b, off + i, none⟩ = some u ∧ IsI w u l) ∧ b < w.heap.size := by
    intro i hi
    have h1 := hel i hi
    rw [cellsInts, List.getElem?_eq_getElem (by omega), add_plain] at h1
    obtain ⟨cs, hc, ht⟩ := Option.bind_eq_some_iff.1 h1
    obtain ⟨v, l, rfl, hv⟩ := trod_ints ht
    have hblk : b < w.heap.size := World.cells?_block hc (by omega)
    obtain ⟨_, _, hcell⟩ := World.cells?_some hc
    have h2 := hcell 0 (by omega)
    simp only [add_plain] at h2
    exact ⟨v, l, ⟨by simpa using h2, hv⟩, hblk⟩
   obtain ⟨_, _, _, hblk⟩ := each 0 (by omega)
   obtain ⟨l, rfl, hi⟩ := v_list (w := w) (b := b) (off := off) len (fun i hi => by
    obtain ⟨u, l, he, _⟩ := each i hi
    exact ⟨u, l, he⟩)
   refine ⟨_, l, rfl, IsD.of_parts hl hm (.inr ⟨b, off, rfl, hblk, fun j hj => ?_⟩)⟩
   obtain ⟨u, hu, hd⟩ := hi j (by omega)
   exact ⟨u, hu, hd.isD⟩
set_option maxRecDepth 100000 in
theorem open_world {H : Type} {enc : TypeId × Value → H} {w : World} {b0 : Nat} {spare : Nat → Bool} {held : Bool} {r : Reach} {v : Value} {d : DataW H} {p : List MemPlace}
  (hv : Value.okWide Tryz.prog w r b0 55 v) (h : DataW.Trod enc Tryz.prog w 0 spare held 55 v d p) : ∃ k : Wd, IsW w v k := by
 obtain ⟨cs, rfl, hsz⟩ := okWide_struct Tryz.underlying55 hv
 obtain ⟨fuel, hf⟩ := h
 obtain ⟨xs, n, _, _, hl, hlen, hf⟩ := DataW.trod_struct Tryz.underlying55 hf
 rw [cellsWd] at hl
 obtain ⟨c0, c1, c2, c3, c4, c5, c6, c7, hcs⟩ := list8k hl
 have hx : xs.length = 3 := by simpa using hlen
 obtain ⟨y0, y1, y2, rfl⟩ := list3k hx
 rw [hcs] at hf
 have h0 := hf 0 _ rfl
 have h1 := hf 1 _ rfl
 have h2 := hf 2 _ rfl
 obtain ⟨m, vi, vh, vs, e0, gi, gh, ge⟩ := trod_model h0
 obtain ⟨v1, l1, e1, g1⟩ := trod_kernels h1
 obtain ⟨v2, l2, e2, g2⟩ := trod_vecs h2
 simp [cellsM, cellsKns, cellsVcs] at e0 e1 e2
 obtain ⟨rfl, rfl, rfl, rfl, rfl, rfl⟩ := e0
 subst e1 e2
 refine ⟨⟨m, l1, l2⟩, c2, c3, c4, c6, c7, ?_, ⟨_, _, _, rfl, gi, gh, ge⟩, g1, g2⟩
 rw [show cs = #[.int .i64 m.n, .int .i64 m.s, c2, c3, c4, .int .i64 m.z, c6, c7] from by
  apply Array.toList_inj.1
  simpa [Value.cells] using hcs]
end Go.Proofs.YtnlhcdchmgfipaaGreat

