/- SOpen, TPtO, LawLastW -/
import Derived.Test.YtglmdocokfnmcaaExactLastG27
import Derived.Test.YtglmdocokfnmcaaExactLastG06
import Derived.Test.YtglmdocokfnmcaaExactLastLPLs
import Derived.Test.YtglmdocokfnmcaaExactLastG04
import Derived.Deep.RegionHeld3
/- How a state that came in is read. -/
namespace Go.Proofs.Ytglmdocokfnmcaa
open Go.ChangeShapes Go.WideShapes Go.ChangeAt Go.RowKit
theorem cellsS : Try.prog.cellsOf 24 = 3 := by kernel_rfl
theorem list3 {α : Type} {l : List α} (h : l.length = 3) : ∃ a b c, l = [a, b, c] := by
  match l, h with
  | [a, b, c], _ => exact ⟨a, b, c, rfl⟩
set_option maxRecDepth 100000 in
theorem open_state {H : Type} {enc : TypeId × Value → H} {w : World} {b0 : Nat} {spare : Nat → Bool} {held : Bool} {r : Reach} {v : Value} {d : DataW H} {p : List MemPlace}
    (hv : Value.okWide Try.prog w r b0 24 v) (h : DataW.Trod enc Try.prog w 0 spare held 24 v d p) : ∃ s : St, IsS w v s := by
  obtain ⟨cs, rfl, hsz⟩ := okWide_struct Try.underlying24 hv
  obtain ⟨fuel, hf⟩ := h
  obtain ⟨xs, n, _, _, hl, hlen, hf⟩ := DataW.trod_struct Try.underlying24 hf
  rw [cellsS] at hl
  obtain ⟨c0, c1, c2, hcs⟩ := list3 hl
  have hx : xs.length = 3 := by simpa using hlen
  obtain ⟨y0, y1, y2, rfl⟩ := list3 hx
  rw [hcs] at hf
  have h0 := hf 0 _ rfl
  have h1 := hf 1 _ rfl
  have h2 := hf 2 _ rfl
  obtain ⟨v0, l0, e0, g0⟩ := trod_ints h0
  obtain ⟨a1, e1, _, _⟩ := DataW.trod_int Try.underlying3 h1
  obtain ⟨a2, e2, _, _⟩ := DataW.trod_int Try.underlying3 h2
  simp [cells3, cellsInts] at e0 e1 e2
  subst e0 e1 e2
  refine ⟨⟨l0, a1, a2⟩, c0, ?_, g0⟩
  rw [show cs = #[c0, .int .i64 a1, .int .i64 a2] from by
    apply Array.toList_inj.1
    simpa [Value.cells] using hcs]
end Go.Proofs.Ytglmdocokfnmcaa

/- How a part that came in is read. -/
namespace Go.Proofs.Ytglmdocokfnmcaa
open Go.ChangeShapes Go.WideShapes Go.ChangeAt Go.RowKit
theorem cellsEm : Try.prog.cellsOf 138 = 3 := by kernel_rfl
theorem cellsEms : Try.prog.cellsOf 94 = 1 := by kernel_rfl
theorem cellsPs : Try.prog.cellsOf 96 = 12 := by kernel_rfl
theorem cellsPss : Try.prog.cellsOf 25 = 1 := by kernel_rfl
theorem cellsPa : Try.prog.cellsOf 28 = 7 := by kernel_rfl
theorem list12 {α : Type} {l : List α} (h : l.length = 12) : ∃ a0 a1 a2 a3 a4 a5 a6 a7 a8 a9 a10 a11, l = [a0, a1, a2, a3, a4, a5, a6, a7, a8, a9, a10, a11] := by
  match l, h with
  | [a0, a1, a2, a3, a4, a5, a6, a7, a8, a9, a10, a11], _ => exact ⟨a0, a1, a2, a3, a4, a5, a6, a7, a8, a9, a10, a11, rfl⟩
theorem list7p {α : Type} {l : List α} (h : l.length = 7) : ∃ a0 a1 a2 a3 a4 a5 a6, l = [a0, a1, a2, a3, a4, a5, a6] := by
  match l, h with
  | [a0, a1, a2, a3, a4, a5, a6], _ => exact ⟨a0, a1, a2, a3, a4, a5, a6, rfl⟩
theorem list5 {α : Type} {l : List α} (h : l.length = 5) : ∃ a0 a1 a2 a3 a4, l = [a0, a1, a2, a3, a4] := by
  match l, h with
  | [a0, a1, a2, a3, a4], _ => exact ⟨a0, a1, a2, a3, a4, rfl⟩
theorem list4p {α : Type} {l : List α} (h : l.length = 4) : ∃ a b c d, l = [a, b, c, d] := by
  match l, h with
  | [a, b, c, d], _ => exact ⟨a, b, c, d, rfl⟩
set_option maxRecDepth 100000 in
theorem trod_emit {H : Type} {enc : TypeId × Value → H} {w : World} {base : Nat} {spare : Nat → Bool} {held : Bool} {fuel : Nat} {cs : List Value} {x : DataW H × List MemPlace}
    (h : DataW.trod enc Try.prog w base spare held fuel 138 cs = some x) : ∃ t l v : Int, cs = [.int .i64 t, .int .i64 l, .int .i64 v] := by
  obtain ⟨xs, n, _, rfl, hl, hlen, hf⟩ := DataW.trod_struct Try.underlying138 h
  rw [cellsEm] at hl
  obtain ⟨c0, c1, c2, rfl⟩ := list3 hl
  have hx : xs.length = 3 := by simpa using hlen
  obtain ⟨y0, y1, y2, rfl⟩ := list3 hx
  have h0 := hf 0 _ rfl
  have h1 := hf 1 _ rfl
  have h2 := hf 2 _ rfl
  obtain ⟨a0, e0, _, w0⟩ := DataW.trod_int Try.underlying3 h0
  obtain ⟨a1, e1, _, w1⟩ := DataW.trod_int Try.underlying3 h1
  obtain ⟨a2, e2, _, w2⟩ := DataW.trod_int Try.underlying3 h2
  simp [cells3] at e0 e1 e2
  subst e0 e1 e2
  exact ⟨a0, a1, a2, rfl⟩
theorem xs_list {w : World} {b off : Nat} : ∀ n, (∀ i, i < n → ∃ e : Em, XAt w b (off + i * 3) e) → ∃ l : List Em, l.length = n ∧ ∀ i, i < n → XAt w b (off + i * 3) (xAt l i)
  | 0, _ => ⟨[], rfl, fun i hi => by omega⟩
  | n + 1, h => by
    obtain ⟨l, hl, hi⟩ := xs_list n (fun i hi => h i (by omega))
    obtain ⟨e, he⟩ := h n (by omega)
    refine ⟨l ++ [e], by simp [hl], fun i hi' => ?_⟩
    by_cases hin : i < n
    · have : xAt (l ++ [e]) i = xAt l i := by unfold xAt; simp [List.getElem?_append_left (by omega : i < l.length)]
      rw [this]; exact hi i hin
    · have : xAt (l ++ [e]) i = e := by unfold xAt; simp [show i = l.length by omega]
      rw [this, show i = n by omega]; exact he
set_option maxRecDepth 100000 in
theorem trod_ems {H : Type} {enc : TypeId × Value → H} {w : World} {spare : Nat → Bool} {held : Bool} {fuel : Nat} {cs : List Value} {x : DataW H × List MemPlace}
    (hf : DataW.trod enc Try.prog w 0 spare held fuel 94 cs = some x) : ∃ v l, cs = [v] ∧ IsX w v l := by
  rcases DataW.trod_slice Try.underlying94 hf with ⟨rfl, _⟩ | ⟨a, len, cap, elems, rest, n, _, rfl, _, hb, hl, hm, hlen, hel, _, _⟩
  · exact ⟨_, [], rfl, none, 0, rfl, Nat.le_refl _, by unfold maxLen; omega, .inl rfl⟩
  · by_cases h0 : len = 0
    · subst h0
      exact ⟨_, [], rfl, _, _, rfl, hl, hm, .inl rfl⟩
    · obtain ⟨b, off, spot⟩ := a
      have hs : spot = none := by
        have h1 := hel 0 (by omega)
        rw [cellsEm, List.getElem?_eq_getElem (by omega)] at h1
        obtain ⟨cs, hc, ht⟩ := Option.bind_eq_some_iff.1 h1
        obtain ⟨t, l, v, rfl⟩ := trod_emit ht
        have c0 := (World.cells?_some hc).2.2 0 (by omega)
        simpa [Addr.add] using World.cell?_spot c0
      subst hs
      have each : ∀ i, i < len → ∃ e : Em, XAt w b (off + i * 3) e ∧ b < w.heap.size := by
        intro i hi
        have h1 := hel i hi
        rw [cellsEm, List.getElem?_eq_getElem (by omega), add_plain] at h1
        obtain ⟨cs, hc, ht⟩ := Option.bind_eq_some_iff.1 h1
        obtain ⟨t, l, v, rfl⟩ := trod_emit ht
        have hblk : b < w.heap.size := World.cells?_block hc (by omega)
        obtain ⟨_, _, hcell⟩ := World.cells?_some hc
        simp only [add_plain] at hcell
        exact ⟨⟨t, l, v⟩, ⟨hcell 0 (by omega), hcell 1 (by omega), hcell 2 (by omega)⟩, hblk⟩
      obtain ⟨_, _, hblk⟩ := each 0 (by omega)
      obtain ⟨l, rfl, hi⟩ := xs_list (w := w) (b := b) (off := off) len (fun i hi => by
        obtain ⟨e, he, _⟩ := each i hi
        exact ⟨e, he⟩)
      exact ⟨_, l, rfl, _, _, rfl, hl, hm, .inr ⟨b, off, rfl, hblk, hi⟩⟩
set_option maxRecDepth 100000 in
theorem trod_state {H : Type} {enc : TypeId × Value → H} {w : World} {spare : Nat → Bool} {held : Bool} {fuel : Nat} {cs : List Value} {x : DataW H × List MemPlace}
    (h : DataW.trod enc Try.prog w 0 spare held fuel 24 cs = some x) : ∃ (s : St) (v : Value), cs = [v, .int .i64 s.q, .int .i64 s.d] ∧ IsI w v s.r := by
  obtain ⟨xs, n, _, _, hl, hlen, hf⟩ := DataW.trod_struct Try.underlying24 h
  rw [cellsS] at hl
  obtain ⟨c0, c1, c2, rfl⟩ := list3 hl
  have hx : xs.length = 3 := by simpa using hlen
  obtain ⟨y0, y1, y2, rfl⟩ := list3 hx
  have h0 := hf 0 _ rfl
  have h1 := hf 1 _ rfl
  have h2 := hf 2 _ rfl
  obtain ⟨v0, l0, e0, g0⟩ := trod_ints h0
  obtain ⟨a1, e1, _, _⟩ := DataW.trod_int Try.underlying3 h1
  obtain ⟨a2, e2, _, _⟩ := DataW.trod_int Try.underlying3 h2
  simp [cells3, cellsInts] at e0 e1 e2
  subst e0 e1 e2
  exact ⟨⟨l0, a1, a2⟩, c0, rfl, g0⟩
set_option maxRecDepth 100000 in
theorem trod_past {H : Type} {enc : TypeId × Value → H} {w : World} {spare : Nat → Bool} {held : Bool} {fuel : Nat} {cs : List Value} {x : DataW H × List MemPlace}
    (h : DataW.trod enc Try.prog w 0 spare held fuel 96 cs = some x) : ∃ (p : Ps) (u7 u10 u11 : Value), cs = [.int .i64 p.e.t, .int .i64 p.e.s, .int .i64 p.e.q, .int .i64 p.e.d, .int .i64 p.e.k, .int .i64 p.e.v, .int .i64 p.e.g, u7, .int .i64 p.b.q, .int .i64 p.b.d, u10, u11] ∧ IsD w u7 (intsD p.b.r) ∧ IsD w u10 (evsD p.s) ∧ IsD w u11 (emsD p.x) := by
  obtain ⟨xs, n, _, _, hl, hlen, hf⟩ := DataW.trod_struct Try.underlying96 h
  rw [cellsPs] at hl
  obtain ⟨c0, c1, c2, c3, c4, c5, c6, c7, c8, c9, c10, c11, rfl⟩ := list12 hl
  have hx : xs.length = 4 := by simpa using hlen
  obtain ⟨y0, y1, y2, y3, rfl⟩ := list4p hx
  have h0 := hf 0 _ rfl
  have h1 := hf 1 _ rfl
  have h2 := hf 2 _ rfl
  have h3 := hf 3 _ rfl
  obtain ⟨t, s, q, d, k, v, g, e0, _⟩ := trod_ev h0
  obtain ⟨st, v1, e1, g1⟩ := trod_state h1
  obtain ⟨v2, l2, e2, g2⟩ := trod_evs h2
  obtain ⟨v3, l3, e3, g3⟩ := trod_ems h3
  simp [cells23, cellsS, cellsEvs, cellsEms] at e0 e1 e2 e3
  obtain ⟨rfl, rfl, rfl, rfl, rfl, rfl, rfl⟩ := e0
  obtain ⟨rfl, rfl, rfl⟩ := e1
  subst e2 e3
  exact ⟨⟨⟨t, s, q, d, k, v, g⟩, st, l2, l3⟩, c7, c10, c11, rfl, g1.isD, g2.isD, g3.isD⟩
theorem ps_list {w : World} {b off : Nat} : ∀ n, (∀ i, i < n → ∃ p : Ps, ∀ r, r < 12 → ∃ u, w.cell? ⟨b, off + i * 12 + r, none⟩ = some u ∧ IsD w u (p.cell r)) →
    ∃ l : List Ps, l.length = n ∧ ∀ i, i < n → ∀ r, r < 12 → ∃ u, w.cell? ⟨b, off + i * 12 + r, none⟩ = some u ∧ IsD w u ((psAt l i).cell r)
  | 0, _ => ⟨[], rfl, fun i hi => by omega⟩
  | n + 1, h => by
    obtain ⟨l, hl, hi⟩ := ps_list n (fun i hi => h i (by omega))
    obtain ⟨e, he⟩ := h n (by omega)
    refine ⟨l ++ [e], by simp [hl], fun i hi' => ?_⟩
    by_cases hin : i < n
    · have : psAt (l ++ [e]) i = psAt l i := by unfold psAt; simp [List.getElem?_append_left (by omega : i < l.length)]
      rw [this]; exact hi i hin
    · have : psAt (l ++ [e]) i = e := by unfold psAt; simp [show i = l.length by omega]
      rw [this, show i = n by omega]; exact he
set_option maxRecDepth 100000 in
theorem trod_pasts {H : Type} {enc : TypeId × Value → H} {w : World} {spare : Nat → Bool} {held : Bool} {fuel : Nat} {cs : List Value} {x : DataW H × List MemPlace}
    (hf : DataW.trod enc Try.prog w 0 spare held fuel 25 cs = some x) : ∃ v l, cs = [v] ∧ IsD w v (pastsD l) := by
  rcases DataW.trod_slice Try.underlying25 hf with ⟨rfl, _⟩ | ⟨a, len, cap, elems, rest, n, _, rfl, _, hb, hl, hm, hlen, hel, _, _⟩
  · exact ⟨_, [], rfl, .nil none 0 12 _ (by unfold maxLen; omega)⟩
  · by_cases h0 : len = 0
    · subst h0
      exact ⟨_, [], rfl, .nil _ _ 12 _ hm⟩
    · obtain ⟨b, off, spot⟩ := a
      have hs : spot = none := by
        have h1 := hel 0 (by omega)
        rw [cellsPs, List.getElem?_eq_getElem (by omega)] at h1
        obtain ⟨cs, hc, ht⟩ := Option.bind_eq_some_iff.1 h1
        obtain ⟨p, u7, u10, u11, rfl, _⟩ := trod_past ht
        have c0 := (World.cells?_some hc).2.2 0 (by omega)
        simpa [Addr.add] using World.cell?_spot c0
      subst hs
      have each : ∀ i, i < len → ∃ p : Ps, (∀ r, r < 12 → ∃ u, w.cell? ⟨b, off + i * 12 + r, none⟩ = some u ∧ IsD w u (p.cell r)) ∧ b < w.heap.size := by
        intro i hi
        have h1 := hel i hi
        rw [cellsPs, List.getElem?_eq_getElem (by omega), add_plain] at h1
        obtain ⟨cs, hc, ht⟩ := Option.bind_eq_some_iff.1 h1
        obtain ⟨p, u7, u10, u11, rfl, g7, g10, g11⟩ := trod_past ht
        have hblk : b < w.heap.size := World.cells?_block hc (by omega)
        obtain ⟨_, _, hcell⟩ := World.cells?_some hc
        simp only [add_plain] at hcell
        refine ⟨p, fun r hr => ?_, hblk⟩
        have hcr := hcell r hr
        match r, hr, hcr with
        | 0, _, hcr => exact ⟨_, hcr, .val _⟩
        | 1, _, hcr => exact ⟨_, hcr, .val _⟩
        | 2, _, hcr => exact ⟨_, hcr, .val _⟩
        | 3, _, hcr => exact ⟨_, hcr, .val _⟩
        | 4, _, hcr => exact ⟨_, hcr, .val _⟩
        | 5, _, hcr => exact ⟨_, hcr, .val _⟩
        | 6, _, hcr => exact ⟨_, hcr, .val _⟩
        | 7, _, hcr => exact ⟨_, hcr, g7⟩
        | 8, _, hcr => exact ⟨_, hcr, .val _⟩
        | 9, _, hcr => exact ⟨_, hcr, .val _⟩
        | 10, _, hcr => exact ⟨_, hcr, g10⟩
        | 11, _, hcr => exact ⟨_, hcr, g11⟩
      obtain ⟨_, _, hblk⟩ := each 0 (by omega)
      obtain ⟨l, rfl, hi⟩ := ps_list (w := w) (b := b) (off := off) len (fun i hi => by
        obtain ⟨e, he, _⟩ := each i hi
        exact ⟨e, he⟩)
      refine ⟨_, l, rfl, IsD.of_parts hl hm (.inr ⟨b, off, rfl, hblk, fun j hj => ?_⟩)⟩
      obtain ⟨u, hu, hd⟩ := hi (j / 12) (by omega) (j % 12) (by omega)
      refine ⟨u, ?_, hd⟩
      rw [← hu]
      congr 2
      omega
set_option maxRecDepth 100000 in
theorem open_part {H : Type} {enc : TypeId × Value → H} {w : World} {b0 : Nat} {spare : Nat → Bool} {held : Bool} {r : Reach} {v : Value} {d : DataW H} {p : List MemPlace}
    (hv : Value.okWide Try.prog w r b0 28 v) (h : DataW.Trod enc Try.prog w 0 spare held 28 v d p) : ∃ p : Pa, IsPart w v p := by
  obtain ⟨cs, rfl, hsz⟩ := okWide_struct Try.underlying28 hv
  obtain ⟨fuel, hf⟩ := h
  obtain ⟨xs, n, _, _, hl, hlen, hf⟩ := DataW.trod_struct Try.underlying28 hf
  rw [cellsPa] at hl
  obtain ⟨c0, c1, c2, c3, c4, c5, c6, hcs⟩ := list7p hl
  have hx : xs.length = 5 := by simpa using hlen
  obtain ⟨y0, y1, y2, y3, y4, rfl⟩ := list5 hx
  rw [hcs] at hf
  have h0 := hf 0 _ rfl
  have h1 := hf 1 _ rfl
  have h2 := hf 2 _ rfl
  have h3 := hf 3 _ rfl
  have h4 := hf 4 _ rfl
  obtain ⟨a0, e0, _, _⟩ := DataW.trod_int Try.underlying3 h0
  obtain ⟨st, v1, e1, g1⟩ := trod_state h1
  obtain ⟨v2, l2, e2, g2⟩ := trod_pasts h2
  obtain ⟨v3, l3, e3, g3⟩ := trod_evs h3
  obtain ⟨v4, l4, e4, g4⟩ := trod_ints h4
  simp [cells3, cellsS, cellsPss, cellsEvs, cellsInts] at e0 e1 e2 e3 e4
  obtain ⟨rfl, rfl, rfl⟩ := e1
  subst e0 e2 e3 e4
  refine ⟨⟨a0, st, l2, l3, l4⟩, c1, c4, c5, c6, ?_, g1.isD, g2, g3.isD, g4.isD⟩
  rw [show cs = #[.int .i64 a0, c1, .int .i64 st.q, .int .i64 st.d, c4, c5, c6] from by
    apply Array.toList_inj.1
    simpa [Value.cells] using hcs]
end Go.Proofs.Ytglmdocokfnmcaa

/- The walk of FnExactLast. -/
namespace Go.Proofs.Ytglmdocokfnmcaa.LawExactLast
open Go.ChangeShapes Go.WideShapes Go.ChangeAt Go.RowKit Go.Proofs.Ytglmdocokfnmcaa

set_option maxRecDepth 100000 in
set_option maxHeartbeats 16000000 in
theorem walk (x : Value) (p : Pa) (w : World) (hx : IsPart w x p) :
    Calls Try.prog 4 #[x] w fun e w' => e = .returned (.bool true) ∧ Below w.heap.size w w' := by
  have HX : Hid (IsPart w x p) := hx
  obtain ⟨v1, v4, v5, v6, rfl, _⟩ := hx
  obtain ⟨W0, hW0⟩ : ∃ W0, w.alloc (.cells #[.int .i64 p.n, v1, .int .i64 p.st.q, .int .i64 p.st.d, v4, v5, v6] 28) = W0 := ⟨_, rfl⟩
  have HB_W0 : Hid (Below w.heap.size w W0) := by rw [← hW0]; exact (Below.refl _ w).alloc (Nat.le_refl _) _
  have HP_W0 : Hid (Bk W0 w.heap.size 28 #[.int .i64 p.n, v1, .int .i64 p.st.q, .int .i64 p.st.d, v4, v5, v6]) := by rw [← hW0]; exact Bk.new w _ _
  have p0 := HP_W0.out.cell (i := 0) rfl
  have p1 := HP_W0.out.cell (i := 1) rfl
  have p2 := HP_W0.out.cell (i := 2) rfl
  have p3 := HP_W0.out.cell (i := 3) rfl
  have p4 := HP_W0.out.cell (i := 4) rfl
  have p5 := HP_W0.out.cell (i := 5) rfl
  have p6 := HP_W0.out.cell (i := 6) rfl
  have hP0 : w.heap.size < W0.heap.size := HP_W0.out.lt
  go_enter Try.func4, Try.ntmps4
  go_wp2_with fail
  clear hW0 p0 p1 p2 p3 p4 p5 p6
  refine (szPart_any _ p _ _ (by omega) (by omega) (HX.out.under HB_W0.out)).mono ?_
  rintro e w1 ⟨⟨r, rfl, hr⟩, hb⟩
  have z_w1 : W0.heap.size ≤ w1.heap.size := hb.size
  have HB_w1 : Hid (Below w.heap.size w w1) := HB_W0.out.trans (hb.mono HB_W0.out.size)
  have HP_w1 : Hid (Bk w1 w.heap.size 28 #[.int .i64 p.n, v1, .int .i64 p.st.q, .int .i64 p.st.d, v4, v5, v6]) := HP_W0.out.below hb
  clear HB_W0 HP_W0 hb
  rcases hr with rfl | ⟨hr0, hr9⟩
  case inl =>
    go_wp2
    go_ret
    exact ⟨rfl, HB_w1.out⟩
  have hr1 : ¬ (r < 0) := by omega
  have HSM : Hid (p.wt ≤ 1048576) := by show p.wt ≤ 1048576; omega
  clear hr0 hr9
  have p0 := HP_w1.out.cell (i := 0) rfl
  have p1 := HP_w1.out.cell (i := 1) rfl
  have p2 := HP_w1.out.cell (i := 2) rfl
  have p3 := HP_w1.out.cell (i := 3) rfl
  have p4 := HP_w1.out.cell (i := 4) rfl
  have p5 := HP_w1.out.cell (i := 5) rfl
  have p6 := HP_w1.out.cell (i := 6) rfl
  go_wp2_with fail
  clear p0 p1 p2 p3 p4 p5 p6
  refine (toPart_any _ p _ HSM.out (HX.out.under HB_w1.out)).mono ?_
  rintro e w2 ⟨y0, rfl, hb, hr⟩
  have z_w2 : w1.heap.size ≤ w2.heap.size := hb.size
  have HB_w2 : Hid (Below w.heap.size w w2) := HB_w1.out.trans (hb.mono HB_w1.out.size)
  have HP_w2 : Hid (Bk w2 w.heap.size 28 #[.int .i64 p.n, v1, .int .i64 p.st.q, .int .i64 p.st.d, v4, v5, v6]) := HP_w1.out.below hb
  have HT_w2 : Hid (PartF (fun k => w1.heap.size ≤ k ∧ k < w2.heap.size) w2 y0 p) := hr
  clear HB_w1 HP_w1 hb hr
  go_wp2_with fail
  refine (sLast _ p _ HSM.out HT_w2.out.is).mono ?_
  rintro e w3 ⟨rfl, hb⟩
  have z_w3 : w2.heap.size ≤ w3.heap.size := hb.size
  have HB_w3 : Hid (Below w.heap.size w w3) := HB_w2.out.trans (hb.mono HB_w2.out.size)
  have HP_w3 : Hid (Bk w3 w.heap.size 28 #[.int .i64 p.n, v1, .int .i64 p.st.q, .int .i64 p.st.d, v4, v5, v6]) := HP_w2.out.below hb
  clear HB_w2 HP_w2 HT_w2 hb
  obtain ⟨V3, hV3⟩ : ∃ V, w3.alloc (.cells #[.int .i64 p.last.t, .int .i64 p.last.s, .int .i64 p.last.q, .int .i64 p.last.d, .int .i64 p.last.k, .int .i64 p.last.v, .int .i64 p.last.g] 40) = V := ⟨_, rfl⟩
  have hb : Below w3.heap.size w3 V3 := by rw [← hV3]; exact (Below.refl _ _).alloc (Nat.le_refl _) _
  have HE_V3 : Hid (Bk V3 w3.heap.size 40 #[.int .i64 p.last.t, .int .i64 p.last.s, .int .i64 p.last.q, .int .i64 p.last.d, .int .i64 p.last.k, .int .i64 p.last.v, .int .i64 p.last.g]) := by rw [← hV3]; exact Bk.new _ _ _
  have z_V3 : w3.heap.size < V3.heap.size := HE_V3.out.lt
  have HB_V3 : Hid (Below w.heap.size w V3) := HB_w3.out.trans (hb.mono HB_w3.out.size)
  have HP_V3 : Hid (Bk V3 w.heap.size 28 #[.int .i64 p.n, v1, .int .i64 p.st.q, .int .i64 p.st.d, v4, v5, v6]) := HP_w3.out.below hb
  clear HB_w3 HP_w3 hb
  have p0 := HP_V3.out.cell (i := 0) rfl
  have p1 := HP_V3.out.cell (i := 1) rfl
  have p2 := HP_V3.out.cell (i := 2) rfl
  have p3 := HP_V3.out.cell (i := 3) rfl
  have p4 := HP_V3.out.cell (i := 4) rfl
  have p5 := HP_V3.out.cell (i := 5) rfl
  have p6 := HP_V3.out.cell (i := 6) rfl
  go_wp2_with fail
  clear hV3 p0 p1 p2 p3 p4 p5 p6
  refine (toPart_any _ p _ HSM.out (HX.out.under HB_V3.out)).mono ?_
  rintro e w4 ⟨y1, rfl, hb, hr⟩
  have z_w4 : V3.heap.size ≤ w4.heap.size := hb.size
  have HE_w4 : Hid (Bk w4 w3.heap.size 40 #[.int .i64 p.last.t, .int .i64 p.last.s, .int .i64 p.last.q, .int .i64 p.last.d, .int .i64 p.last.k, .int .i64 p.last.v, .int .i64 p.last.g]) := HE_V3.out.below hb
  have HB_w4 : Hid (Below w.heap.size w w4) := HB_V3.out.trans (hb.mono HB_V3.out.size)
  have HP_w4 : Hid (Bk w4 w.heap.size 28 #[.int .i64 p.n, v1, .int .i64 p.st.q, .int .i64 p.st.d, v4, v5, v6]) := HP_V3.out.below hb
  have HR_w4 : Hid (PartF (fun k => V3.heap.size ≤ k ∧ k < w4.heap.size) w4 y1 p) := hr
  clear HB_V3 HP_V3 hb hr
  obtain ⟨a1, c1, a4, c4, a5, c5, a6, c6, rfl⟩ := HR_w4.out.form
  obtain ⟨Vw4, hVw4⟩ : ∃ V, w4.alloc (.cells #[.int .i64 p.n, .slice a1 p.st.r.length c1, .int .i64 p.st.q, .int .i64 p.st.d, .slice a4 p.p.length c4, .slice a5 p.t.length c5, .slice a6 p.a.length c6] 35) = V := ⟨_, rfl⟩
  have BHX0 : Bk Vw4 w4.heap.size 35 #[.int .i64 p.n, .slice a1 p.st.r.length c1, .int .i64 p.st.q, .int .i64 p.st.d, .slice a4 p.p.length c4, .slice a5 p.t.length c5, .slice a6 p.a.length c6] := by rw [← hVw4]; exact Bk.new _ _ _
  have hb : Below w4.heap.size w4 Vw4 := by rw [← hVw4]; exact (Below.refl _ _).alloc (Nat.le_refl _) _
  have y_Vw4 : w4.heap.size < Vw4.heap.size := BHX0.lt
  have z_Vw4 : w4.heap.size ≤ Vw4.heap.size := hb.size
  have HE_Vw4 : Hid (Bk Vw4 w3.heap.size 40 #[.int .i64 p.last.t, .int .i64 p.last.s, .int .i64 p.last.q, .int .i64 p.last.d, .int .i64 p.last.k, .int .i64 p.last.v, .int .i64 p.last.g]) := HE_w4.out.below hb
  have HB_Vw4 : Hid (Below w.heap.size w Vw4) := HB_w4.out.trans (hb.mono HB_w4.out.size)
  have HP_Vw4 : Hid (Bk Vw4 w.heap.size 28 #[.int .i64 p.n, v1, .int .i64 p.st.q, .int .i64 p.st.d, v4, v5, v6]) := HP_w4.out.below hb
  have HR_Vw4 : Hid (PartF (fun k => V3.heap.size ≤ k ∧ k < w4.heap.size) Vw4 (.agg #[.int .i64 p.n, .slice a1 p.st.r.length c1, .int .i64 p.st.q, .int .i64 p.st.d, .slice a4 p.p.length c4, .slice a5 p.t.length c5, .slice a6 p.a.length c6]) p) := HR_w4.out.under hb
  have HX0_Vw4 : Hid (Bk Vw4 w4.heap.size 35 #[.int .i64 p.n, .slice a1 p.st.r.length c1, .int .i64 p.st.q, .int .i64 p.st.d, .slice a4 p.p.length c4, .slice a5 p.t.length c5, .slice a6 p.a.length c6]) := BHX0
  clear HB_w4 HP_w4 HR_w4 hb BHX0
  have r0 := HX0_Vw4.out.cell (i := 0) rfl
  have r1 := HX0_Vw4.out.cell (i := 1) rfl
  have r2 := HX0_Vw4.out.cell (i := 2) rfl
  have r3 := HX0_Vw4.out.cell (i := 3) rfl
  have r4 := HX0_Vw4.out.cell (i := 4) rfl
  have r5 := HX0_Vw4.out.cell (i := 5) rfl
  have r6 := HX0_Vw4.out.cell (i := 6) rfl
  go_wp2_with fail
  clear hVw4 r0 r1 r2 r3 r4 r5 r6
  refine (iLast _ p _ HSM.out HR_Vw4.out.is).mono ?_
  rintro e w5 ⟨rfl, hb⟩
  have z_w5 : Vw4.heap.size ≤ w5.heap.size := hb.size
  have HB_w5 : Hid (Below w.heap.size w w5) := HB_Vw4.out.trans (hb.mono HB_Vw4.out.size)
  have HP_w5 : Hid (Bk w5 w.heap.size 28 #[.int .i64 p.n, v1, .int .i64 p.st.q, .int .i64 p.st.d, v4, v5, v6]) := HP_Vw4.out.below hb
  have HR_w5 : Hid (PartF (fun k => V3.heap.size ≤ k ∧ k < w4.heap.size) w5 (.agg #[.int .i64 p.n, .slice a1 p.st.r.length c1, .int .i64 p.st.q, .int .i64 p.st.d, .slice a4 p.p.length c4, .slice a5 p.t.length c5, .slice a6 p.a.length c6]) p) := HR_Vw4.out.under hb
  have HX0_w5 : Hid (Bk w5 w4.heap.size 35 #[.int .i64 p.n, .slice a1 p.st.r.length c1, .int .i64 p.st.q, .int .i64 p.st.d, .slice a4 p.p.length c4, .slice a5 p.t.length c5, .slice a6 p.a.length c6]) := HX0_Vw4.out.below hb
  have HE_w5 : Hid (Bk w5 w3.heap.size 40 #[.int .i64 p.last.t, .int .i64 p.last.s, .int .i64 p.last.q, .int .i64 p.last.d, .int .i64 p.last.k, .int .i64 p.last.v, .int .i64 p.last.g]) := HE_Vw4.out.below hb
  clear HB_Vw4 HP_Vw4 HR_Vw4 HX0_Vw4 hb
  obtain ⟨V5, hV5⟩ : ∃ V, w5.alloc (.cells #[.int .i64 p.last.t, .int .i64 p.last.s, .int .i64 p.last.q, .int .i64 p.last.d, .int .i64 p.last.k, .int .i64 p.last.v, .int .i64 p.last.g] 40) = V := ⟨_, rfl⟩
  have hb : Below w5.heap.size w5 V5 := by rw [← hV5]; exact (Below.refl _ _).alloc (Nat.le_refl _) _
  have HG_V5 : Hid (Bk V5 w5.heap.size 40 #[.int .i64 p.last.t, .int .i64 p.last.s, .int .i64 p.last.q, .int .i64 p.last.d, .int .i64 p.last.k, .int .i64 p.last.v, .int .i64 p.last.g]) := by rw [← hV5]; exact Bk.new _ _ _
  have HE_V5 : Hid (Bk V5 w3.heap.size 40 #[.int .i64 p.last.t, .int .i64 p.last.s, .int .i64 p.last.q, .int .i64 p.last.d, .int .i64 p.last.k, .int .i64 p.last.v, .int .i64 p.last.g]) := HE_w5.out.below hb
  have HB_V5 : Hid (Below w.heap.size w V5) := HB_w5.out.trans (hb.mono HB_w5.out.size)
  have HP_V5 : Hid (Bk V5 w.heap.size 28 #[.int .i64 p.n, v1, .int .i64 p.st.q, .int .i64 p.st.d, v4, v5, v6]) := HP_w5.out.below hb
  have HR_V5 : Hid (PartF (fun k => V3.heap.size ≤ k ∧ k < w4.heap.size) V5 (.agg #[.int .i64 p.n, .slice a1 p.st.r.length c1, .int .i64 p.st.q, .int .i64 p.st.d, .slice a4 p.p.length c4, .slice a5 p.t.length c5, .slice a6 p.a.length c6]) p) := HR_w5.out.under hb
  have HX0_V5 : Hid (Bk V5 w4.heap.size 35 #[.int .i64 p.n, .slice a1 p.st.r.length c1, .int .i64 p.st.q, .int .i64 p.st.d, .slice a4 p.p.length c4, .slice a5 p.t.length c5, .slice a6 p.a.length c6]) := HX0_w5.out.below hb
  have z_V5 : w5.heap.size ≤ V5.heap.size := hb.size
  clear HB_w5 HP_w5 HR_w5 HX0_w5 HE_w5 hb
  have g0 := HG_V5.out.cell (i := 0) rfl
  have e0 := HE_V5.out.cell (i := 0) rfl
  have g1 := HG_V5.out.cell (i := 1) rfl
  have e1 := HE_V5.out.cell (i := 1) rfl
  have g2 := HG_V5.out.cell (i := 2) rfl
  have e2 := HE_V5.out.cell (i := 2) rfl
  have g3 := HG_V5.out.cell (i := 3) rfl
  have e3 := HE_V5.out.cell (i := 3) rfl
  have g4 := HG_V5.out.cell (i := 4) rfl
  have e4 := HE_V5.out.cell (i := 4) rfl
  have g5 := HG_V5.out.cell (i := 5) rfl
  have e5 := HE_V5.out.cell (i := 5) rfl
  have g6 := HG_V5.out.cell (i := 6) rfl
  have e6 := HE_V5.out.cell (i := 6) rfl
  go_wp2_with fail
  clear hV5 g0 e0 g1 e1 g2 e2 g3 e3 g4 e4 g5 e5 g6 e6
  refine (eqEvent_same _ _ _ _ _ _ _ _).mono ?_
  rintro e w6 ⟨rfl, hb⟩
  have z_w6 : V5.heap.size ≤ w6.heap.size := hb.size
  have HB_w6 : Hid (Below w.heap.size w w6) := HB_V5.out.trans (hb.mono HB_V5.out.size)
  have HP_w6 : Hid (Bk w6 w.heap.size 28 #[.int .i64 p.n, v1, .int .i64 p.st.q, .int .i64 p.st.d, v4, v5, v6]) := HP_V5.out.below hb
  have HR_w6 : Hid (PartF (fun k => V3.heap.size ≤ k ∧ k < w4.heap.size) w6 (.agg #[.int .i64 p.n, .slice a1 p.st.r.length c1, .int .i64 p.st.q, .int .i64 p.st.d, .slice a4 p.p.length c4, .slice a5 p.t.length c5, .slice a6 p.a.length c6]) p) := HR_V5.out.under hb
  have HX0_w6 : Hid (Bk w6 w4.heap.size 35 #[.int .i64 p.n, .slice a1 p.st.r.length c1, .int .i64 p.st.q, .int .i64 p.st.d, .slice a4 p.p.length c4, .slice a5 p.t.length c5, .slice a6 p.a.length c6]) := HX0_V5.out.below hb
  clear HB_V5 HP_V5 HR_V5 HX0_V5 hb
  have p0 := HP_w6.out.cell (i := 0) rfl
  have p1 := HP_w6.out.cell (i := 1) rfl
  have p2 := HP_w6.out.cell (i := 2) rfl
  have p3 := HP_w6.out.cell (i := 3) rfl
  have p4 := HP_w6.out.cell (i := 4) rfl
  have p5 := HP_w6.out.cell (i := 5) rfl
  have p6 := HP_w6.out.cell (i := 6) rfl
  have r0 := HX0_w6.out.cell (i := 0) rfl
  have r1 := HX0_w6.out.cell (i := 1) rfl
  have r2 := HX0_w6.out.cell (i := 2) rfl
  have r3 := HX0_w6.out.cell (i := 3) rfl
  have r4 := HX0_w6.out.cell (i := 4) rfl
  have r5 := HX0_w6.out.cell (i := 5) rfl
  have r6 := HX0_w6.out.cell (i := 6) rfl
  go_wp2_with fail
  have hzz : w.heap.size < w6.heap.size := by omega
  have hzy : w4.heap.size < w6.heap.size := by omega
  go_region_held3 (fun W => W.cell? ⟨w.heap.size, 0, none⟩ = some (.int .i64 p.n) ∧ W.cell? ⟨w.heap.size, 1, none⟩ = some (v1) ∧ W.cell? ⟨w.heap.size, 2, none⟩ = some (.int .i64 p.st.q) ∧ W.cell? ⟨w.heap.size, 3, none⟩ = some (.int .i64 p.st.d) ∧ W.cell? ⟨w.heap.size, 4, none⟩ = some (v4) ∧ W.cell? ⟨w.heap.size, 5, none⟩ = some (v5) ∧ W.cell? ⟨w.heap.size, 6, none⟩ = some (v6) ∧ W.cell? ⟨w4.heap.size, 0, none⟩ = some (.int .i64 p.n) ∧ W.cell? ⟨w4.heap.size, 1, none⟩ = some (.slice a1 p.st.r.length c1) ∧ W.cell? ⟨w4.heap.size, 2, none⟩ = some (.int .i64 p.st.q) ∧ W.cell? ⟨w4.heap.size, 3, none⟩ = some (.int .i64 p.st.d) ∧ W.cell? ⟨w4.heap.size, 4, none⟩ = some (.slice a4 p.p.length c4) ∧ W.cell? ⟨w4.heap.size, 5, none⟩ = some (.slice a5 p.t.length c5) ∧ W.cell? ⟨w4.heap.size, 6, none⟩ = some (.slice a6 p.a.length c6)) ((repeat' apply And.intro) <;> first | (go_keep; done) | (rw [hcA _ _ (by first | omega | (simp; omega))]; simp [*]; done))
    (first | (go_at_call 10; refine (toPart_any _ p _ HSM.out (HX.out.under HB_w6.out.drew)).mono ?_; rintro e w7 ⟨y2, rfl, hbw7, hr2⟩; obtain ⟨hcA, hfA⟩ := bcell hbw7; have hzw7 : w6.heap.size ≤ w7.heap.size := hbw7.size) | (go_at_call 12; refine (eqPart_same _ _ p _ HSM.out (HR_w6.out.under ((Below.refl _ w6).drew.trans hbw7)).is hr2.is).mono ?_; rintro e w8 ⟨rfl, hbw8⟩; obtain ⟨hcA, hfA⟩ := bcell hbw8; have hzw8 : w7.heap.size ≤ w8.heap.size := hbw8.size))
  clear hcA hfA
  have hbc : Below w6.heap.size w6 w8 := ((Below.refl w6.heap.size w6).drew.trans (hbw7.mono (Nat.le_refl _))).trans (hbw8.mono (by omega))
  clear p0 p1 p2 p3 p4 p5 p6 r0 r1 r2 r3 r4 r5 r6
  have HB_w8 : Hid (Below w.heap.size w w8) := HB_w6.out.trans (hbc.mono HB_w6.out.size)
  clear hbc hr2 hbw7 hzw7 hbw8 hzw8 hzz hzy
  go_wp2
  go_ret
  exact ⟨rfl, HB_w8.out⟩
end Go.Proofs.Ytglmdocokfnmcaa.LawExactLast

