/- Open, OpenS, MOpen, CSt, CApp, CHi, CPc, CAp2 -/
import Derived.Test.YtmpoffepoafblaaGreatRows
import Derived.Test.YtmpoffepoafblaaGreatDecidesLVOpen
import Derived.ProofKit
import Derived.ChangeOld
import Derived.Below
import Derived.OpenShut
import Derived.Test.YtmpoffepoafblaaGreatDecidesG03
import Derived.SizedLaws
import Derived.Test.YtmpoffepoafblaaGreatDecidesG29
import Derived.Test.YtmpoffepoafblaaGreatDecidesLPushU
import Derived.Test.YtmpoffepoafblaaGreatDecidesG25
import Derived.Test.YtmpoffepoafblaaGreatDecidesLCPl
/- How an event that came in is read: seven integers. -/
namespace Go.Proofs.YtmpoffepoafblaaGreat
open Go.ChangeShapes Go.WideShapes Go.ChangeAt Go.RowKit

theorem cells23 : Tryz.prog.cellsOf 95 = 7 := by kernel_rfl

def wfI (x : Int) : Prop := (Lit.int .i64 x).wf = true

theorem list7 {α : Type} {l : List α} (h : l.length = 7) : ∃ a b c d e f g, l = [a, b, c, d, e, f, g] := by
  match l, h with
  | [a, b, c, d, e, f, g], _ => exact ⟨a, b, c, d, e, f, g, rfl⟩

set_option maxRecDepth 100000 in
theorem trod_ev {H : Type} {enc : TypeId × Value → H} {w : World} {base : Nat} {spare : Nat → Bool} {held : Bool} {fuel : Nat} {cs : List Value} {x : DataW H × List MemPlace}
    (h : DataW.trod enc Tryz.prog w base spare held fuel 95 cs = some x) :
    ∃ t s q d k v g : Int, cs = [.int .i64 t, .int .i64 s, .int .i64 q, .int .i64 d, .int .i64 k, .int .i64 v, .int .i64 g] ∧ wfI t ∧ wfI s ∧ wfI q ∧ wfI d ∧ wfI k ∧ wfI v ∧ wfI g := by
  obtain ⟨xs, n, _, rfl, hl, hlen, hf⟩ := DataW.trod_struct Tryz.underlying95 h
  rw [cells23] at hl
  obtain ⟨c0, c1, c2, c3, c4, c5, c6, rfl⟩ := list7 hl
  have hx : xs.length = 7 := by simpa using hlen
  obtain ⟨y0, y1, y2, y3, y4, y5, y6, rfl⟩ := list7 hx
  have h0 := hf 0 _ rfl
  have h1 := hf 1 _ rfl
  have h2 := hf 2 _ rfl
  have h3 := hf 3 _ rfl
  have h4 := hf 4 _ rfl
  have h5 := hf 5 _ rfl
  have h6 := hf 6 _ rfl
  obtain ⟨a0, e0, _, w0⟩ := DataW.trod_int Tryz.underlying3 h0
  obtain ⟨a1, e1, _, w1⟩ := DataW.trod_int Tryz.underlying3 h1
  obtain ⟨a2, e2, _, w2⟩ := DataW.trod_int Tryz.underlying3 h2
  obtain ⟨a3, e3, _, w3⟩ := DataW.trod_int Tryz.underlying3 h3
  obtain ⟨a4, e4, _, w4⟩ := DataW.trod_int Tryz.underlying3 h4
  obtain ⟨a5, e5, _, w5⟩ := DataW.trod_int Tryz.underlying3 h5
  obtain ⟨a6, e6, _, w6⟩ := DataW.trod_int Tryz.underlying3 h6
  simp [cells3] at e0 e1 e2 e3 e4 e5 e6
  subst e0 e1 e2 e3 e4 e5 e6
  exact ⟨a0, a1, a2, a3, a4, a5, a6, rfl, w0, w1, w2, w3, w4, w5, w6⟩

set_option maxRecDepth 100000 in
theorem open_ev {H : Type} {enc : TypeId × Value → H} {w : World} {base b0 : Nat} {spare : Nat → Bool} {held : Bool} {r : Reach} {v : Value} {d : DataW H} {p : List MemPlace}
    (hv : Value.okWide Tryz.prog w r b0 95 v) (h : DataW.Trod enc Tryz.prog w base spare held 95 v d p) :
    ∃ t s q d k z g : Int, v = .agg #[.int .i64 t, .int .i64 s, .int .i64 q, .int .i64 d, .int .i64 k, .int .i64 z, .int .i64 g] ∧ wfI t ∧ wfI s ∧ wfI q ∧ wfI d ∧ wfI k ∧ wfI z ∧ wfI g := by
  obtain ⟨cs, rfl, hsz⟩ := okWide_struct Tryz.underlying95 hv
  obtain ⟨fuel, hf⟩ := h
  obtain ⟨t, s, q, d, k, z, g, e, hw⟩ := trod_ev hf
  refine ⟨t, s, q, d, k, z, g, ?_, hw⟩
  rw [show cs = #[.int .i64 t, .int .i64 s, .int .i64 q, .int .i64 d, .int .i64 k, .int .i64 z, .int .i64 g] from by
    apply Array.toList_inj.1
    simpa [Value.cells] using e]
end Go.Proofs.YtmpoffepoafblaaGreat

/- How a list of events that came in is read. -/
namespace Go.Proofs.YtmpoffepoafblaaGreat
open Go.ChangeShapes Go.WideShapes Go.ChangeAt Go.RowKit

theorem evs_list {w : World} {b off : Nat} : ∀ n, (∀ i, i < n → ∃ e : Ev, Ev.In w b (off + i * 7) e) → ∃ l : List Ev, l.length = n ∧ ∀ i, i < n → Ev.In w b (off + i * 7) (evAt l i)
  | 0, _ => ⟨[], rfl, fun i hi => by omega⟩
  | n + 1, h => by
    obtain ⟨l, hl, hi⟩ := evs_list n (fun i hi => h i (by omega))
    obtain ⟨e, he⟩ := h n (by omega)
    refine ⟨l ++ [e], by simp [hl], fun i hi' => ?_⟩
    by_cases hin : i < n
    · have : evAt (l ++ [e]) i = evAt l i := by unfold evAt; simp [List.getElem?_append_left (by omega : i < l.length)]
      rw [this]; exact hi i hin
    · have : evAt (l ++ [e]) i = e := by unfold evAt; simp [show i = l.length by omega]
      rw [this, show i = n by omega]; exact he

set_option maxRecDepth 100000 in
theorem open_evs {H : Type} {enc : TypeId × Value → H} {w : World} {b0 : Nat} {spare : Nat → Bool} {held : Bool} {r : Reach} {v : Value} {d : DataW H} {p : List MemPlace}
    (hv : Value.okWide Tryz.prog w r b0 24 v) (h : DataW.Trod enc Tryz.prog w 0 spare held 24 v d p) : ∃ l : List Ev, IsEvs w v l := by
  obtain ⟨a0, len, cap, rfl⟩ := okWide_slice Tryz.underlying24 hv
  obtain ⟨fuel, hf⟩ := h
  rcases DataW.trod_slice Tryz.underlying24 hf with ⟨hcs, _⟩ | ⟨a, len', cap', elems, rest, n, _, hcs, _, hb, hl, hm, hlen, hel, _, _⟩
  · simp [Value.cells] at hcs
    obtain ⟨rfl, rfl, rfl⟩ := hcs
    exact ⟨[], _, _, rfl, Nat.le_refl _, by unfold maxLen; omega, .inl rfl⟩
  · simp [Value.cells] at hcs
    obtain ⟨rfl, rfl, rfl⟩ := hcs
    by_cases h0 : len = 0
    · subst h0
      exact ⟨[], _, _, rfl, hl, hm, .inl rfl⟩
    · obtain ⟨b, off, spot⟩ := a
      have hs : spot = none := by
        have h1 := hel 0 (by omega)
        rw [cells23, List.getElem?_eq_getElem (by omega)] at h1
        obtain ⟨cs, hc, ht⟩ := Option.bind_eq_some_iff.1 h1
        obtain ⟨t, s, q, d, k, v, g, rfl, _⟩ := trod_ev ht
        have c0 := (World.cells?_some hc).2.2 0 (by omega)
        simpa [Addr.add] using World.cell?_spot c0
      subst hs
      have each : ∀ i, i < len → ∃ e : Ev, Ev.In w b (off + i * 7) e ∧ b < w.heap.size := by
        intro i hi
        have h1 := hel i hi
        rw [cells23, List.getElem?_eq_getElem (by omega), add_plain] at h1
        obtain ⟨cs, hc, ht⟩ := Option.bind_eq_some_iff.1 h1
        obtain ⟨t, s, q, d, k, v, g, rfl, _⟩ := trod_ev ht
        have hblk : b < w.heap.size := World.cells?_block hc (by omega)
        obtain ⟨_, _, hcell⟩ := World.cells?_some hc
        simp only [add_plain] at hcell
        exact ⟨⟨t, s, q, d, k, v, g⟩, ⟨hcell 0 (by omega), hcell 1 (by omega), hcell 2 (by omega), hcell 3 (by omega), hcell 4 (by omega), hcell 5 (by omega), hcell 6 (by omega)⟩, hblk⟩
      obtain ⟨_, _, hblk⟩ := each 0 (by omega)
      obtain ⟨l, rfl, hi⟩ := evs_list (w := w) (b := b) (off := off) len (fun i hi => by
        obtain ⟨e, he, _⟩ := each i hi
        exact ⟨e, he⟩)
      exact ⟨l, _, _, rfl, hl, hm, .inr ⟨b, off, rfl, hblk, hi⟩⟩
end Go.Proofs.YtmpoffepoafblaaGreat

/- How a model that came in is read. -/
namespace Go.Proofs.YtmpoffepoafblaaGreat
open Go.ChangeShapes Go.WideShapes Go.ChangeAt Go.RowKit
theorem cellsOp : Tryz.prog.cellsOf 240 = 4 := by kernel_rfl
theorem cellsRow : Tryz.prog.cellsOf 177 = 1 := by kernel_rfl
theorem cellsRows : Tryz.prog.cellsOf 23 = 1 := by kernel_rfl
theorem cellsInts : Tryz.prog.cellsOf 22 = 1 := by kernel_rfl
theorem cellsEvs : Tryz.prog.cellsOf 24 = 1 := by kernel_rfl
theorem cellsM : Tryz.prog.cellsOf 26 = 6 := by kernel_rfl
theorem list4 {α : Type} {l : List α} (h : l.length = 4) : ∃ a b c d, l = [a, b, c, d] := by
  match l, h with
  | [a, b, c, d], _ => exact ⟨a, b, c, d, rfl⟩
theorem list6 {α : Type} {l : List α} (h : l.length = 6) : ∃ a b c d e f, l = [a, b, c, d, e, f] := by
  match l, h with
  | [a, b, c, d, e, f], _ => exact ⟨a, b, c, d, e, f, rfl⟩
set_option maxRecDepth 100000 in
theorem trod_op {H : Type} {enc : TypeId × Value → H} {w : World} {base : Nat} {spare : Nat → Bool} {held : Bool} {fuel : Nat} {cs : List Value} {x : DataW H × List MemPlace}
    (h : DataW.trod enc Tryz.prog w base spare held fuel 240 cs = some x) : ∃ c a b k : Int, cs = [.int .i64 c, .int .i64 a, .int .i64 b, .int .i64 k] ∧ wfI c ∧ wfI a ∧ wfI b ∧ wfI k := by
  obtain ⟨xs, n, _, rfl, hl, hlen, hf⟩ := DataW.trod_struct Tryz.underlying240 h
  rw [cellsOp] at hl
  obtain ⟨c0, c1, c2, c3, rfl⟩ := list4 hl
  have hx : xs.length = 4 := by simpa using hlen
  obtain ⟨y0, y1, y2, y3, rfl⟩ := list4 hx
  have h0 := hf 0 _ rfl
  have h1 := hf 1 _ rfl
  have h2 := hf 2 _ rfl
  have h3 := hf 3 _ rfl
  obtain ⟨a0, e0, _, w0⟩ := DataW.trod_int Tryz.underlying3 h0
  obtain ⟨a1, e1, _, w1⟩ := DataW.trod_int Tryz.underlying3 h1
  obtain ⟨a2, e2, _, w2⟩ := DataW.trod_int Tryz.underlying3 h2
  obtain ⟨a3, e3, _, w3⟩ := DataW.trod_int Tryz.underlying3 h3
  simp [cells3] at e0 e1 e2 e3
  subst e0 e1 e2 e3
  exact ⟨a0, a1, a2, a3, rfl, w0, w1, w2, w3⟩
set_option maxRecDepth 100000 in
theorem trod_ints {H : Type} {enc : TypeId × Value → H} {w : World} {spare : Nat → Bool} {held : Bool} {fuel : Nat} {cs : List Value} {x : DataW H × List MemPlace}
    (hf : DataW.trod enc Tryz.prog w 0 spare held fuel 22 cs = some x) : ∃ v l, cs = [v] ∧ IsI w v l := by
  rcases DataW.trod_slice Tryz.underlying22 hf with ⟨rfl, _⟩ | ⟨a, len, cap, elems, rest, n, _, rfl, _, hb, hl, hm, hlen, hel, _, _⟩
  · exact ⟨_, [], rfl, none, 0, rfl, Nat.le_refl _, by unfold maxLen; omega, .inl rfl⟩
  · by_cases h0 : len = 0
    · subst h0
      exact ⟨_, [], rfl, _, _, rfl, hl, hm, .inl rfl⟩
    · obtain ⟨b, off, spot⟩ := a
      have hs : spot = none := by
        have h1 := hel 0 (by omega)
        rw [cells3, List.getElem?_eq_getElem (by omega)] at h1
        obtain ⟨cs, hc, ht⟩ := Option.bind_eq_some_iff.1 h1
        obtain ⟨t, rfl, _⟩ := DataW.trod_int Tryz.underlying3 ht
        have c0 := (World.cells?_some hc).2.2 0 (by omega)
        simpa [Addr.add] using World.cell?_spot c0
      subst hs
      have each : ∀ i, i < len → ∃ z : Int, w.cell? ⟨b, off + i, none⟩ = some (.int .i64 z) ∧ b < w.heap.size := by
        intro i hi
        have h1 := hel i hi
        rw [cells3, List.getElem?_eq_getElem (by omega), add_plain] at h1
        obtain ⟨cs, hc, ht⟩ := Option.bind_eq_some_iff.1 h1
        obtain ⟨t, rfl, _, hw⟩ := DataW.trod_int Tryz.underlying3 ht
        have hblk : b < w.heap.size := World.cells?_block hc (by omega)
        obtain ⟨_, _, hcell⟩ := World.cells?_some hc
        have h2 := hcell 0 (by omega)
        simp only [add_plain] at h2
        exact ⟨t, by simpa using h2, hblk⟩
      obtain ⟨_, _, hblk⟩ := each 0 (by omega)
      obtain ⟨l, rfl, hi⟩ := ints_list (w := w) (b := b) (off := off) len (fun i hi => by
        obtain ⟨e, he, _⟩ := each i hi
        exact ⟨e, he⟩)
      exact ⟨_, l, rfl, _, _, rfl, hl, hm, .inr ⟨b, off, rfl, hblk, hi⟩⟩
set_option maxRecDepth 100000 in
theorem trod_evs {H : Type} {enc : TypeId × Value → H} {w : World} {spare : Nat → Bool} {held : Bool} {fuel : Nat} {cs : List Value} {x : DataW H × List MemPlace}
    (hf : DataW.trod enc Tryz.prog w 0 spare held fuel 24 cs = some x) : ∃ v l, cs = [v] ∧ IsEvs w v l := by
  rcases DataW.trod_slice Tryz.underlying24 hf with ⟨rfl, _⟩ | ⟨a, len, cap, elems, rest, n, _, rfl, _, hb, hl, hm, hlen, hel, _, _⟩
  · exact ⟨_, [], rfl, none, 0, rfl, Nat.le_refl _, by unfold maxLen; omega, .inl rfl⟩
  · by_cases h0 : len = 0
    · subst h0
      exact ⟨_, [], rfl, _, _, rfl, hl, hm, .inl rfl⟩
    · obtain ⟨b, off, spot⟩ := a
      have hs : spot = none := by
        have h1 := hel 0 (by omega)
        rw [cells23, List.getElem?_eq_getElem (by omega)] at h1
        obtain ⟨cs, hc, ht⟩ := Option.bind_eq_some_iff.1 h1
        obtain ⟨t, s, q, d, k, v, g, rfl, _⟩ := trod_ev ht
        have c0 := (World.cells?_some hc).2.2 0 (by omega)
        simpa [Addr.add] using World.cell?_spot c0
      subst hs
      have each : ∀ i, i < len → ∃ e : Ev, Ev.In w b (off + i * 7) e ∧ b < w.heap.size := by
        intro i hi
        have h1 := hel i hi
        rw [cells23, List.getElem?_eq_getElem (by omega), add_plain] at h1
        obtain ⟨cs, hc, ht⟩ := Option.bind_eq_some_iff.1 h1
        obtain ⟨t, s, q, d, k, v, g, rfl, _⟩ := trod_ev ht
        have hblk : b < w.heap.size := World.cells?_block hc (by omega)
        obtain ⟨_, _, hcell⟩ := World.cells?_some hc
        simp only [add_plain] at hcell
        exact ⟨⟨t, s, q, d, k, v, g⟩, ⟨hcell 0 (by omega), hcell 1 (by omega), hcell 2 (by omega), hcell 3 (by omega), hcell 4 (by omega), hcell 5 (by omega), hcell 6 (by omega)⟩, hblk⟩
      obtain ⟨_, _, hblk⟩ := each 0 (by omega)
      obtain ⟨l, rfl, hi⟩ := evs_list (w := w) (b := b) (off := off) len (fun i hi => by
        obtain ⟨e, he, _⟩ := each i hi
        exact ⟨e, he⟩)
      exact ⟨_, l, rfl, _, _, rfl, hl, hm, .inr ⟨b, off, rfl, hblk, hi⟩⟩
theorem os_list {w : World} {b off : Nat} : ∀ n, (∀ i, i < n → ∃ e : O, OAt w b (off + i * 4) e) → ∃ l : List O, l.length = n ∧ ∀ i, i < n → OAt w b (off + i * 4) (oAt l i)
  | 0, _ => ⟨[], rfl, fun i hi => by omega⟩
  | n + 1, h => by
    obtain ⟨l, hl, hi⟩ := os_list n (fun i hi => h i (by omega))
    obtain ⟨e, he⟩ := h n (by omega)
    refine ⟨l ++ [e], by simp [hl], fun i hi' => ?_⟩
    by_cases hin : i < n
    · have : oAt (l ++ [e]) i = oAt l i := by unfold oAt; simp [List.getElem?_append_left (by omega : i < l.length)]
      rw [this]; exact hi i hin
    · have : oAt (l ++ [e]) i = e := by unfold oAt; simp [show i = l.length by omega]
      rw [this, show i = n by omega]; exact he
set_option maxRecDepth 100000 in
theorem trod_ops {H : Type} {enc : TypeId × Value → H} {w : World} {spare : Nat → Bool} {held : Bool} {fuel : Nat} {cs : List Value} {x : DataW H × List MemPlace}
    (hf : DataW.trod enc Tryz.prog w 0 spare held fuel 177 cs = some x) : ∃ v l, cs = [v] ∧ IsO w v l := by
  rcases DataW.trod_slice Tryz.underlying177 hf with ⟨rfl, _⟩ | ⟨a, len, cap, elems, rest, n, _, rfl, _, hb, hl, hm, hlen, hel, _, _⟩
  · exact ⟨_, [], rfl, none, 0, rfl, Nat.le_refl _, by unfold maxLen; omega, .inl rfl⟩
  · by_cases h0 : len = 0
    · subst h0
      exact ⟨_, [], rfl, _, _, rfl, hl, hm, .inl rfl⟩
    · obtain ⟨b, off, spot⟩ := a
      have hs : spot = none := by
        have h1 := hel 0 (by omega)
        rw [cellsOp, List.getElem?_eq_getElem (by omega)] at h1
        obtain ⟨cs, hc, ht⟩ := Option.bind_eq_some_iff.1 h1
        obtain ⟨c, a, b, k, rfl, _⟩ := trod_op ht
        have c0 := (World.cells?_some hc).2.2 0 (by omega)
        simpa [Addr.add] using World.cell?_spot c0
      subst hs
      have each : ∀ i, i < len → ∃ e : O, OAt w b (off + i * 4) e ∧ b < w.heap.size := by
        intro i hi
        have h1 := hel i hi
        rw [cellsOp, List.getElem?_eq_getElem (by omega), add_plain] at h1
        obtain ⟨cs, hc, ht⟩ := Option.bind_eq_some_iff.1 h1
        obtain ⟨c, a, b', k, rfl, _⟩ := trod_op ht
        have hblk : b < w.heap.size := World.cells?_block hc (by omega)
        obtain ⟨_, _, hcell⟩ := World.cells?_some hc
        simp only [add_plain] at hcell
        exact ⟨⟨c, a, b', k⟩, ⟨hcell 0 (by omega), hcell 1 (by omega), hcell 2 (by omega), hcell 3 (by omega)⟩, hblk⟩
      obtain ⟨_, _, hblk⟩ := each 0 (by omega)
      obtain ⟨l, rfl, hi⟩ := os_list (w := w) (b := b) (off := off) len (fun i hi => by
        obtain ⟨e, he, _⟩ := each i hi
        exact ⟨e, he⟩)
      exact ⟨_, l, rfl, _, _, rfl, hl, hm, .inr ⟨b, off, rfl, hblk, hi⟩⟩
theorem hs_list {w : World} {b off : Nat} : ∀ n, (∀ i, i < n → ∃ u l, w.cell? ⟨b, off + i, none⟩ = some u ∧ IsO w u l) → ∃ l : List (List O), l.length = n ∧ ∀ i, i < n → ∃ u, w.cell? ⟨b, off + i, none⟩ = some u ∧ IsO w u (hAt l i)
  | 0, _ => ⟨[], rfl, fun i hi => by omega⟩
  | n + 1, h => by
    obtain ⟨l, hl, hi⟩ := hs_list n (fun i hi => h i (by omega))
    obtain ⟨u, r, hu, hr⟩ := h n (by omega)
    refine ⟨l ++ [r], by simp [hl], fun i hi' => ?_⟩
    by_cases hin : i < n
    · have : hAt (l ++ [r]) i = hAt l i := by unfold hAt; simp [List.getElem?_append_left (by omega : i < l.length)]
      rw [this]; exact hi i hin
    · have : hAt (l ++ [r]) i = r := by unfold hAt; simp [show i = l.length by omega]
      rw [this, show i = n by omega]; exact ⟨u, hu, hr⟩
set_option maxRecDepth 100000 in
theorem trod_hs {H : Type} {enc : TypeId × Value → H} {w : World} {spare : Nat → Bool} {held : Bool} {fuel : Nat} {cs : List Value} {x : DataW H × List MemPlace}
    (hf : DataW.trod enc Tryz.prog w 0 spare held fuel 23 cs = some x) : ∃ v l, cs = [v] ∧ IsH w v l := by
  rcases DataW.trod_slice Tryz.underlying23 hf with ⟨rfl, _⟩ | ⟨a, len, cap, elems, rest, n, _, rfl, _, hb, hl, hm, hlen, hel, _, _⟩
  · exact ⟨_, [], rfl, none, 0, rfl, Nat.le_refl _, by unfold maxLen; omega, .inl rfl⟩
  · by_cases h0 : len = 0
    · subst h0
      exact ⟨_, [], rfl, _, _, rfl, hl, hm, .inl rfl⟩
    · obtain ⟨b, off, spot⟩ := a
      have hs : spot = none := by
        have h1 := hel 0 (by omega)
        rw [cellsRow, List.getElem?_eq_getElem (by omega)] at h1
        obtain ⟨cs, hc, ht⟩ := Option.bind_eq_some_iff.1 h1
        obtain ⟨v, l, rfl, _⟩ := trod_ops ht
        have c0 := (World.cells?_some hc).2.2 0 (by omega)
        simpa [Addr.add] using World.cell?_spot c0
      subst hs
      have each : ∀ i, i < len → ∃ u l, (w.cell? ⟨b, off + i, none⟩ = some u ∧ IsO w u l) ∧ b < w.heap.size := by
        intro i hi
        have h1 := hel i hi
        rw [cellsRow, List.getElem?_eq_getElem (by omega), add_plain] at h1
        obtain ⟨cs, hc, ht⟩ := Option.bind_eq_some_iff.1 h1
        obtain ⟨v, l, rfl, hv⟩ := trod_ops ht
        have hblk : b < w.heap.size := World.cells?_block hc (by omega)
        obtain ⟨_, _, hcell⟩ := World.cells?_some hc
        have h2 := hcell 0 (by omega)
        simp only [add_plain] at h2
        exact ⟨v, l, ⟨by simpa using h2, hv⟩, hblk⟩
      obtain ⟨_, _, _, hblk⟩ := each 0 (by omega)
      obtain ⟨l, rfl, hi⟩ := hs_list (w := w) (b := b) (off := off) len (fun i hi => by
        obtain ⟨u, l, he, _⟩ := each i hi
        exact ⟨u, l, he⟩)
      exact ⟨_, l, rfl, _, _, rfl, hl, hm, .inr ⟨b, off, rfl, hblk, hi⟩⟩
set_option maxRecDepth 100000 in
theorem open_model {H : Type} {enc : TypeId × Value → H} {w : World} {b0 : Nat} {spare : Nat → Bool} {held : Bool} {r : Reach} {v : Value} {d : DataW H} {p : List MemPlace}
    (hv : Value.okWide Tryz.prog w r b0 26 v) (h : DataW.Trod enc Tryz.prog w 0 spare held 26 v d p) : ∃ m : Md, IsM w v m := by
  obtain ⟨cs, rfl, hsz⟩ := okWide_struct Tryz.underlying26 hv
  obtain ⟨fuel, hf⟩ := h
  obtain ⟨xs, n, _, _, hl, hlen, hf⟩ := DataW.trod_struct Tryz.underlying26 hf
  rw [cellsM] at hl
  obtain ⟨c0, c1, c2, c3, c4, c5, hcs⟩ := list6 hl
  have hx : xs.length = 6 := by simpa using hlen
  obtain ⟨y0, y1, y2, y3, y4, y5, rfl⟩ := list6 hx
  rw [hcs] at hf
  have h0 := hf 0 _ rfl
  have h1 := hf 1 _ rfl
  have h2 := hf 2 _ rfl
  have h3 := hf 3 _ rfl
  have h4 := hf 4 _ rfl
  have h5 := hf 5 _ rfl
  obtain ⟨a0, e0, _, _⟩ := DataW.trod_int Tryz.underlying3 h0
  obtain ⟨a1, e1, _, _⟩ := DataW.trod_int Tryz.underlying3 h1
  obtain ⟨v2, l2, e2, g2⟩ := trod_ints h2
  obtain ⟨v3, l3, e3, g3⟩ := trod_hs h3
  obtain ⟨v4, l4, e4, g4⟩ := trod_evs h4
  obtain ⟨a5, e5, _, _⟩ := DataW.trod_int Tryz.underlying3 h5
  simp [cells3, cellsInts, cellsRows, cellsEvs] at e0 e1 e2 e3 e4 e5
  subst e0 e1 e2 e3 e4 e5
  refine ⟨⟨a0, a1, l2, l3, l4, a5⟩, c2, c3, c4, ?_, g2, g3, g4⟩
  rw [show cs = #[.int .i64 a0, .int .i64 a1, c2, c3, c4, .int .i64 a5] from by
    apply Array.toList_inj.1
    simpa [Value.cells] using hcs]
set_option maxRecDepth 100000 in
theorem open_op {H : Type} {enc : TypeId × Value → H} {w : World} {base b0 : Nat} {spare : Nat → Bool} {held : Bool} {r : Reach} {v : Value} {d : DataW H} {p : List MemPlace}
    (hv : Value.okWide Tryz.prog w r b0 240 v) (h : DataW.Trod enc Tryz.prog w base spare held 240 v d p) :
    ∃ c a b k : Int, v = .agg #[.int .i64 c, .int .i64 a, .int .i64 b, .int .i64 k] ∧ wfI c ∧ wfI a ∧ wfI b ∧ wfI k := by
  obtain ⟨cs, rfl, hsz⟩ := okWide_struct Tryz.underlying240 hv
  obtain ⟨fuel, hf⟩ := h
  obtain ⟨c, a, b, k, e, hw⟩ := trod_op hf
  refine ⟨c, a, b, k, ?_, hw⟩
  rw [show cs = #[.int .i64 c, .int .i64 a, .int .i64 b, .int .i64 k] from by
    apply Array.toList_inj.1
    simpa [Value.cells] using e]
end Go.Proofs.YtmpoffepoafblaaGreat

/- A row of states: each one's registers lie in a block of A. -/
namespace Go.Proofs.YtmpoffepoafblaaGreat
open Go.RowKit
abbrev Pt : Type := Value × St
def cellsT : List Pt → List Value
  | [] => []
  | p :: l => p.1 :: .int .i64 p.2.q :: .int .i64 p.2.d :: cellsT l
def tAt (l : List Pt) (i : Nat) : Pt := l.getD i (.slice none 0 0, ⟨[], 0, 0⟩)
def Pt.cs (p : Pt) : List Value := [p.1, .int .i64 p.2.q, .int .i64 p.2.d]
def stsOf (l : List Pt) : List St := l.map Prod.snd
theorem cellsT_length : ∀ l : List Pt, (cellsT l).length = l.length * 3
  | [] => rfl
  | p :: l => by simp [cellsT, cellsT_length l]; omega
theorem cellsT_append : ∀ l l' : List Pt, cellsT (l ++ l') = cellsT l ++ cellsT l'
  | [], _ => rfl
  | p :: l, l' => by simp [cellsT, cellsT_append l l']
theorem tAt_cons (p : Pt) (l : List Pt) (i : Nat) : tAt (p :: l) (i + 1) = tAt l i := by simp [tAt]
theorem tAt_set (l : List Pt) (i j : Nat) (p : Pt) (h : i < l.length) : tAt (l.set i p) j = if i = j then p else tAt l j := by
  unfold tAt
  rw [List.getD_eq_getElem?_getD, List.getD_eq_getElem?_getD, List.getElem?_set]
  by_cases e : i = j
  · subst e; simp [h]
  · simp [e]
theorem tAt_left (l m : List Pt) (i : Nat) (h : i < l.length) : tAt (l ++ m) i = tAt l i := by simp [tAt, List.getElem?_append_left h]
theorem tAt_last (l : List Pt) (p : Pt) : tAt (l ++ [p]) l.length = p := by simp [tAt]
theorem tAt_st (l : List Pt) (i : Nat) : stAt (stsOf l) i = (tAt l i).2 := by
  unfold stAt tAt stsOf
  rw [List.getD_eq_getElem?_getD, List.getD_eq_getElem?_getD, List.getElem?_map]
  cases l[i]? <;> rfl
theorem stsOf_set (l : List Pt) (i : Nat) (p : Pt) : stsOf (l.set i p) = (stsOf l).set i p.2 := by simp [stsOf, List.map_set]
theorem stsOf_length (l : List Pt) : (stsOf l).length = l.length := by simp [stsOf]
theorem stsOf_append (l m : List Pt) : stsOf (l ++ m) = stsOf l ++ stsOf m := by simp [stsOf]
theorem cellsT_get : ∀ (l : List Pt) (i r : Nat), i < l.length → r < 3 → (cellsT l)[i * 3 + r]? = (tAt l i).cs[r]?
  | [], _, _, h, _ => by simp at h
  | p :: l, 0, r, _, hr => by
    have : r = 0 ∨ r = 1 ∨ r = 2 := by omega
    rcases this with rfl | rfl | rfl <;> simp [cellsT, tAt, Pt.cs]
  | p :: l, i + 1, r, h, hr => by
    have h1 := cellsT_get l i r (by simpa using h) hr
    have e : (i + 1) * 3 + r = (i * 3 + r) + 1 + 1 + 1 := by omega
    rw [tAt_cons, ← h1, e]
    simp [cellsT]
theorem cellsT_set : ∀ (l : List Pt) (i : Nat) (p : Pt), i < l.length → (((cellsT l).set (i * 3) p.1).set (i * 3 + 1) (.int .i64 p.2.q)).set (i * 3 + 2) (.int .i64 p.2.d) = cellsT (l.set i p)
  | [], _, _, h => by simp at h
  | a :: l, 0, p, _ => by simp [cellsT]
  | a :: l, i + 1, p, h => by
    have ih := cellsT_set l i p (by simpa using h)
    have hk0 : (i + 1) * 3 = i * 3 + 1 + 1 + 1 := by omega
    simp only [cellsT, List.set_cons_succ, hk0, ih]
structure Sts (A : Nat → Prop) (w : World) (B : Nat) (v : Value) (l : List Pt) : Prop where
  row : w.ownsRow B 48 3 v l.length (cellsT l)
  reg : ∀ j, j < l.length → RowF A w (tAt l j).1 (tAt l j).2.r.length 1 (intCells (tAt l j).2.r)
section
variable {A A' : Nat → Prop} {w w' : World} {B : Nat} {v : Value} {l : List Pt}
theorem Sts.nil (A : Nat → Prop) (w : World) (B : Nat) : Sts A w B (.slice none 0 0) [] := ⟨World.ownsRow_nil w B _ 3, fun j h => by simp at h⟩
theorem Sts.mono (h : Sts A w B v l) (hA : ∀ k, A k → A' k) : Sts A' w B v l := ⟨h.row, fun j hj => (h.reg j hj).mono hA⟩
theorem Sts.is (h : Sts A w B v l) {j : Nat} (hj : j < l.length) : IsS w (.agg #[(tAt l j).1, .int .i64 (tAt l j).2.q, .int .i64 (tAt l j).2.d]) (tAt l j).2 := ⟨_, rfl, (h.reg j hj).isI⟩
theorem owns_same {T : TypeId} {c n : Nat} {cs : List Value} (h : w.ownsRow B T c v n cs) (hb : ∀ k, v.ownBlock = some k → w'.heap[k]? = w.heap[k]?) : w'.ownsRow B T c v n cs := by
  obtain ⟨h0, ⟨e, h1⟩ | ⟨g, cap, cur, rfl, hg, hc, h1⟩⟩ := h
  · exact ⟨h0, .inl ⟨e, h1⟩⟩
  · exact ⟨h0, .inr ⟨g, cap, cur, rfl, hg, (hb g rfl).trans hc, h1⟩⟩
theorem owns_turns {S : Nat → Prop} {T : TypeId} {c n : Nat} {cs : List Value} (h : w.ownsRow B T c v n cs) (ht : Turns S w w') (hS : ∀ k, v.ownBlock = some k → ¬ S k) : w'.ownsRow B T c v n cs :=
  owns_same h fun k hk => ht.block k (World.ownsRow.lt h k hk).2 (hS k hk)
theorem Sts.turns {S : Nat → Prop} (h : Sts A w B v l) (ht : Turns S w w') (hS : ∀ k, A k → ¬ S k) (hv : ∀ k, v.ownBlock = some k → ¬ S k) : Sts A w' B v l :=
  ⟨owns_turns h.row ht hv, fun j hj => (h.reg j hj).turns ht hS⟩
theorem Sts.below (h : Sts A w B v l) (hb : Below w.heap.size w w') : Sts A w' B v l := h.turns (S := fun _ => False) (Turns.of_below hb) (fun _ _ => id) (fun _ _ => id)
theorem Sts.one (h : Sts A w B v l) : ∀ u ∈ cellsT l, u.oneCell' = true := by
  have hreg := h.reg
  clear h
  induction l with
  | nil => intro u hu; cases hu
  | cons p l ih =>
    intro u hu
    obtain ⟨_, a, c, e, _⟩ := hreg 0 (by simp)
    have e' : p.1 = .slice a p.2.r.length c := e
    simp only [cellsT, List.mem_cons] at hu
    rcases hu with rfl | rfl | rfl | hu
    · rw [e']; rfl
    · rfl
    · rfl
    · exact ih (fun j hj => by
        have := hreg (j + 1) (by simpa using hj)
        rwa [tAt_cons] at this) u hu
abbrev put3o (w : World) (P o : Nat) (v0 v1 v2 : Value) : World := ((w.setCell ⟨P, o, none⟩ v0).setCell ⟨P, o + 1, none⟩ v1).setCell ⟨P, o + 2, none⟩ v2
theorem put3o_turns (w : World) (P o : Nat) (v0 v1 v2 : Value) : Turns (fun b => b = P) w (put3o w P o v0 v1 v2) :=
  ((put1_turns w P o v0).trans (put1_turns _ P (o + 1) v1)).trans (put1_turns _ P (o + 2) v2)
theorem Sts.put {g cap : Nat} (h : Sts A w B (.slice (some ⟨g, 0, none⟩) l.length cap) l) {i : Nat} (hi : i < l.length) (p : Pt) (hp : RowF A w p.1 p.2.r.length 1 (intCells p.2.r)) (hg : ¬ A g) :
    Sts A (put3o w g (i * 3) p.1 (.int .i64 p.2.q) (.int .i64 p.2.d)) B (.slice (some ⟨g, 0, none⟩) l.length cap) (l.set i p) := by
  have hS : ∀ k, A k → ¬ k = g := fun k hk e => hg (e ▸ hk)
  refine ⟨?_, fun j hj => ?_⟩
  · have h0 := (World.ownsRow.stored h.row (i * 3) p.1).1
    have h1 := (World.ownsRow.stored h0 (i * 3 + 1) (.int .i64 p.2.q)).1
    have h2 := (World.ownsRow.stored h1 (i * 3 + 2) (.int .i64 p.2.d)).1
    rw [List.length_set, ← cellsT_set l i p hi]
    exact h2
  · rw [List.length_set] at hj
    rw [tAt_set _ _ _ _ hi]
    split
    · exact hp.turns (put3o_turns _ _ _ _ _ _) hS
    · exact (h.reg j hj).turns (put3o_turns _ _ _ _ _ _) hS
theorem Sts.snoc {B' : Nat} {v' : Value} {p : Pt} (hr : w'.ownsRow B' 48 3 v' (l.length + 1) (cellsT l ++ p.cs)) (h : ∀ j, j < l.length → RowF A w' (tAt l j).1 (tAt l j).2.r.length 1 (intCells (tAt l j).2.r)) (hp : RowF A w' p.1 p.2.r.length 1 (intCells p.2.r)) :
    Sts A w' B' v' (l ++ [p]) := by
  refine ⟨?_, fun j hj => ?_⟩
  · rw [cellsT_append, List.length_append]
    exact hr
  · by_cases hj' : j < l.length
    · rw [tAt_left _ _ _ hj']; exact h j hj'
    · have e : j = l.length := by simp at hj; omega
      rw [e, tAt_last]; exact hp
theorem Sts.cells {g cap : Nat} (h : Sts A w B (.slice (some ⟨g, 0, none⟩) l.length cap) l) {i : Nat} (hi : i < l.length) :
    w.cell? ⟨g, i * 3, none⟩ = some (tAt l i).1 ∧ w.cell? ⟨g, i * 3 + 1, none⟩ = some (.int .i64 (tAt l i).2.q) ∧ w.cell? ⟨g, i * 3 + 2, none⟩ = some (.int .i64 (tAt l i).2.d) := by
  have hget : ∀ r, r < 3 → w.cell? ⟨g, i * 3 + r, none⟩ = (tAt l i).cs[r]? := fun r hr => by
    rw [World.ownsRow.cellAt h.row (i * 3 + r) (by omega), cellsT_get l i r hi hr]
  exact ⟨hget 0 (by omega), hget 1 (by omega), hget 2 (by omega)⟩
theorem Sts.frozen {g cap : Nat} (h : Sts A w B (.slice (some ⟨g, 0, none⟩) l.length cap) l) (j : Nat) : w.frozen? ⟨g, j, none⟩ = false := World.ownsRow.frozenAt h.row j
theorem Sts.form {n : Nat} (h : Sts A w B v l) (hn : l.length = n + 1) : ∃ g cap, v = .slice (some ⟨g, 0, none⟩) l.length cap ∧ l.length ≤ cap ∧ cap ≤ maxLen ∧ B ≤ g ∧ g < w.heap.size := by
  have hr := h.row
  obtain ⟨h0, ⟨e, h1⟩ | ⟨g, cap, cur, e, hg, hc, h1, h2, _⟩⟩ := hr
  · rw [hn] at h1; exact absurd h1 (by omega)
  · subst e
    exact ⟨g, cap, rfl, h1, h2, hg, (World.ownsRow.lt h.row g rfl).2⟩
end
end Go.Proofs.YtmpoffepoafblaaGreat

/- append, and where the row that comes out lies. -/
namespace Go.Proofs.YtmpoffepoafblaaGreat
open Go.RowKit
theorem wpList_append_own2 {P : Program} {ops : Array Oper} {rest : List Oper} {o : Oper} {a : Act} {Q : Exit → Act → World → Prop} (w : World) (hgd : o.guard = none) (s x : Operand) (t : TypeId)
    (ho : o.op = .call { callee := .builtin .append, args := #[s, x], argTypes := #[t, t] })
    (base : Nat) (e : TypeId) (i : TypeInfo) (z : Value) (size bytes : Nat) (ht : P.underlying t = some (.slice e)) (hi : P.info? e = some i) (hz : i.zero = some z)
    (hsize : i.size = size) (hby : i.bytes = bytes) (hzs : z.cells.size = size) (hsz : 0 < size)
    (v : Value) (n : Nat) (xs : List Value) (hs : a.eval s = v) (hown : w.ownsRow base e size v n xs)
    (ad : Addr) (m c : Nat) (news : List Value) (hx : a.eval x = .slice (some ad) m c) (hl : news.length = m * size) (hnews : ∀ j u, news[j]? = some u → w.cell? (ad.add j) = some u) (h1 : ∀ u ∈ news, u.oneCell' = true)
    (h63 : n + m ≤ maxLen) (hbytes : (n + m) * bytes ≤ 140737488355328) (hbase : base ≤ w.heap.size)
    (h : ∀ v' w', w'.ownsRow base e size v' (n + m) (xs ++ news) → w.grownBy w' v.ownBlock → NewRow w v v' → wpList P ops Q rest (a.put o.dst v') w') : wpList P ops Q (o :: rest) a w :=
  wpList_plain hgd fun _ hK => by
    obtain ⟨v', w', hr, q1, q2, q3⟩ := run_append_own2 (P := P) w base t o.type e i z size bytes ht hi hz hsize hby hzs hsz v n xs hown ad m c news hl hnews h1 h63 hbytes hbase
    unfold Oper.wp execOp
    simp only [ho, resolve, invoke, builtin, Sem.run_bind, Sem.run_pure, Result.andThen_ok, List.map_toArray, List.map_cons, List.map_nil, hs, hx, hr]
    exact hK _ _ (h v' w' q1 q2 q3)
/- The blocks since B, but for the row's own. -/
def AS (B : Nat) (w : World) (v : Value) (b : Nat) : Prop := B ≤ b ∧ b < w.heap.size ∧ v.ownBlock ≠ some b
theorem Sts.appended {B : Nat} {wr w1 w3 : World} {st st' : Value} {l : List Pt} {p : Pt} {o : Obj} (h : Sts (AS B wr st) wr B st l) (hB : B ≤ wr.heap.size) (hb : Below wr.heap.size wr w1)
    (hp : RowF (fun k => wr.heap.size ≤ k ∧ k < w1.heap.size) w1 p.1 p.2.r.length 1 (intCells p.2.r)) (hg : (w1.alloc o).grownBy w3 st.ownBlock) (hn : NewRow (w1.alloc o) st st')
    (hr : w3.ownsRow B 48 3 st' (l.length + 1) (cellsT l ++ p.cs)) : Sts (AS B w3 st') w3 B st' (l ++ [p]) := by
  have h1 : Turns (fun k => st.ownBlock = some k) w1 w3 := ((Turns.refl _ w1).alloc o).grown hg (fun k e => e)
  have h0 : Turns (fun k => st.ownBlock = some k) wr w3 := (Turns.of_below hb).trans h1
  have s1 : w1.heap.size + 1 ≤ w3.heap.size := by have := hg.size; simpa using this
  have s0 := hb.size
  refine Sts.snoc hr (fun j hj => ((h.reg j hj).turns h0 (fun k hk => hk.2.2)).mono fun k hk => ⟨hk.1, by have := hk.2.1; omega, ?_⟩) ((hp.turns h1 fun k hk e => ?_).mono fun k hk => ⟨by omega, by omega, ?_⟩)
  · rcases hn with e | e
    · rw [e]; exact hk.2.2
    · intro e'; have h9 := e k e'; have := hk.2.1; rw [World.size_alloc] at h9; omega
  · have := (World.ownsRow.lt h.row k e).2; omega
  · rcases hn with e | e
    · rw [e]; intro e'; have := (World.ownsRow.lt h.row k e').2; omega
    · intro e'; have h9 := e k e'; rw [World.size_alloc] at h9; omega
theorem new3 (w : World) (T : TypeId) (a b c : Value) : ∀ j u, [a, b, c][j]? = some u → (w.alloc (.cells #[a, b, c] T)).cell? (Addr.add ⟨w.heap.size, 0, none⟩ j) = some u := by
  intro j u h
  have hB := Bk.new w T #[a, b, c]
  rw [addr_add]
  exact hB.cell (by simpa using h)
theorem one3 {a : Option Addr} {n c : Nat} {q d : Int} : ∀ u ∈ [Value.slice a n c, .int .i64 q, .int .i64 d], u.oneCell' = true := by
  intro u hu
  simp only [List.mem_cons, List.not_mem_nil, or_false] at hu
  rcases hu with rfl | rfl | rfl <;> rfl
end Go.Proofs.YtmpoffepoafblaaGreat

/- Histories, and a course in memory. -/
namespace Go.Proofs.YtmpoffepoafblaaGreat
open Go.RowKit
/- A history whose lists lie in blocks of F, not both in one. -/
def HiF (F : Nat → Prop) (w : World) (y : Value) (h : Hi) : Prop :=
  ∃ (A C : Nat → Prop) (ve vx : Value), y = .agg #[ve, vx, .int .i64 h.k, .bool h.f] ∧ RowF A w ve h.ev.length 7 (cellsL h.ev) ∧ RowF C w vx h.em.length 3 (cellsX h.em) ∧ (∀ k, A k → F k ∧ ¬ C k) ∧ ∀ k, C k → F k
theorem HiF.turns {F S : Nat → Prop} {w w' : World} {x : Value} {h : Hi} (hh : HiF F w x h) (ht : Turns S w w') (hS : ∀ k, F k → ¬ S k) : HiF F w' x h := by
  obtain ⟨A, C, ve, vx, rfl, h1, h2, h3, h4⟩ := hh
  exact ⟨A, C, ve, vx, rfl, h1.turns ht (fun k hk => hS k (h3 k hk).1), h2.turns ht (fun k hk => hS k (h4 k hk)), h3, h4⟩
theorem HiF.below {F : Nat → Prop} {w w' : World} {x : Value} {h : Hi} (hh : HiF F w x h) (hb : Below w.heap.size w w') : HiF F w' x h :=
  hh.turns (S := fun _ => False) (Turns.of_below hb) (fun _ _ => id)
theorem HiF.mono {F F' : Nat → Prop} {w : World} {x : Value} {h : Hi} (hh : HiF F w x h) (hF : ∀ k, F k → F' k) : HiF F' w x h := by
  obtain ⟨A, C, ve, vx, rfl, h1, h2, h3, h4⟩ := hh
  exact ⟨A, C, ve, vx, rfl, h1, h2, fun k hk => ⟨hF k (h3 k hk).1, (h3 k hk).2⟩, fun k hk => hF k (h4 k hk)⟩
theorem hi_of {w : World} {B : Nat} {ve vx : Value} {ev : List Ev} {em : List Em} {k : Int} {f : Bool} (h1 : OwnR B w ve ev) (h2 : w.ownsRow B 61 3 vx em.length (cellsX em)) :
    HiF (fun j => B ≤ j ∧ j < w.heap.size) w (.agg #[ve, vx, .int .i64 k, .bool f]) ⟨ev, em, k, f⟩ :=
  ⟨_, _, ve, vx, rfl, own_rowF (cellsL_length _) h1, own_rowF (cellsX_length _) h2, fun j e => ⟨World.ownsRow.lt h1 j e, fun e' => apart_blocks h1 h2 (by decide) e e'⟩, fun j e => World.ownsRow.lt h2 j e⟩
/- The blocks since B, but for those of the three rows. -/
def AQ (B : Nat) (w : World) (st ve vx : Value) (k : Nat) : Prop := B ≤ k ∧ k < w.heap.size ∧ st.ownBlock ≠ some k ∧ ve.ownBlock ≠ some k ∧ vx.ownBlock ≠ some k
theorem owns_form {w : World} {B : Nat} {T : TypeId} {c n : Nat} {v : Value} {cs : List Value} (h : w.ownsRow B T c v n cs) : ∃ a cap, v = .slice a n cap := by
  obtain ⟨_, ⟨rfl, h0⟩ | ⟨g, cap, cur, rfl, _⟩⟩ := h
  · exact ⟨none, 0, by rw [h0]⟩
  · exact ⟨_, cap, rfl⟩
/- A course in memory: what is to do, the states, the history in its block H. -/
structure SCo (B H : Nat) (w : World) (td st : Value) (l : List Pt) (ve vx : Value) (c : Co) : Prop where
  to : OwnR B w td c.td
  ss : Sts (AQ B w st ve vx) w B st l
  sl : stsOf l = c.st
  hb : Bk w H 31 #[ve, vx, .int .i64 (-1), .bool false]
  es : OwnR B w ve c.ev
  xs : w.ownsRow B 61 3 vx c.em.length (cellsX c.em)
  ap : ∀ k, td.ownBlock = some k → ve.ownBlock ≠ some k
  lo : H < B
section
variable {B H : Nat} {w w' : World} {td st ve vx : Value} {l : List Pt} {c : Co}
theorem SCo.begin (htd : OwnR B w td c.td) (hst : Sts (AS B w st) w B st l) (hsl : stsOf l = c.st) (hh : Bk w H 31 #[.slice none 0 0, .slice none 0 0, .int .i64 (-1), .bool false]) (he : c.ev = []) (hx : c.em = []) (hlo : H < B) :
    SCo B H w td st l (.slice none 0 0) (.slice none 0 0) c := by
  refine ⟨htd, hst.mono (fun k hk => ⟨hk.1, hk.2.1, hk.2.2, (fun e => by cases e), (fun e => by cases e)⟩), hsl, hh, ?_, ?_, (fun k _ e => by cases e), hlo⟩
  · rw [he]; exact OwnR.nil _ _
  · rw [hx]; exact World.ownsRow_nil w B _ 3
/- What is made behind leaves a course as it is. -/
theorem SCo.below (h : SCo B H w td st l ve vx c) (hb : Below w.heap.size w w') : SCo B H w' td st l ve vx c :=
  ⟨h.to.below hb, (h.ss.below hb).mono fun _ hk => ⟨hk.1, Nat.lt_of_lt_of_le hk.2.1 hb.size, hk.2.2⟩, h.sl, h.hb.below hb, h.es.below hb, owns_turns (S := fun _ => False) h.xs (Turns.of_below hb) (fun _ _ => id), h.ap, h.lo⟩
/- Another list of what is to do, made behind. -/
theorem SCo.todo (h : SCo B H w td st l ve vx c) (hb : Below w.heap.size w w') {td' : Value} {t : List Ev} (ht : OwnR w.heap.size w' td' t) (hB : B ≤ w.heap.size) : SCo B H w' td' st l ve vx ⟨t, c.st, c.ev, c.em⟩ := by
  have h' := h.below hb
  refine ⟨ht.mono hB, h'.ss, h'.sl, h'.hb, h'.es, h'.xs, fun k e e' => ?_, h.lo⟩
  have h1 := (World.ownsRow.lt ht k e).1
  have h2 := (World.ownsRow.lt h.es k e').2
  omega
/- A state is put in its place. -/
theorem SCo.state {g cap : Nat} (h : SCo B H w td (.slice (some ⟨g, 0, none⟩) l.length cap) l ve vx c) {i : Nat} (hi : i < l.length) (p : Pt) (hp : RowF (AQ B w (.slice (some ⟨g, 0, none⟩) l.length cap) ve vx) w p.1 p.2.r.length 1 (intCells p.2.r)) :
    SCo B H (put3o w g (i * 3) p.1 (.int .i64 p.2.q) (.int .i64 p.2.d)) td (.slice (some ⟨g, 0, none⟩) l.length cap) (l.set i p) ve vx ⟨c.td, c.st.set i p.2, c.ev, c.em⟩ := by
  have ht := put3o_turns w g (i * 3) p.1 (.int .i64 p.2.q) (.int .i64 p.2.d)
  have hn : ∀ {T : TypeId} {c n : Nat} {v : Value} {cs : List Value}, w.ownsRow B T c v n cs → T ≠ 48 → ∀ k, v.ownBlock = some k → ¬ k = g := fun ho hT k e e' => by
    subst e'
    exact apart_blocks ho h.ss.row hT e rfl
  have hsz : (put3o w g (i * 3) p.1 (.int .i64 p.2.q) (.int .i64 p.2.d)).heap.size = w.heap.size := by simp
  refine ⟨owns_turns h.to ht (hn h.to (by decide)), (h.ss.put hi p hp (fun hk => hk.2.2.1 rfl)).mono fun k hk => ⟨hk.1, by rw [hsz]; exact hk.2.1, hk.2.2⟩, by rw [stsOf_set, h.sl], h.hb.turns ht ?_, owns_turns h.es ht (hn h.es (by decide)), owns_turns h.xs ht (hn h.xs (by decide)), h.ap, h.lo⟩
  exact fun e => Bk.off h.hb h.ss.row (by decide) (by rw [e]; rfl)
theorem row_off {T : TypeId} {n k : Nat} {v : Value} {cs : List Value} {vs : Array Value} (hH : Bk w H 31 vs) (ho : w.ownsRow B T n v k cs) (hT : T ≠ 31) : ∀ j, v.ownBlock = some j → ¬ j = H := fun j e e' => by
  subst e'
  exact Bk.off hH ho hT e.symm
theorem newRow_ne {v v' u : Value} {c n : Nat} {T : TypeId} {cs : List Value} (hn : NewRow w v v') (hu : ∀ k, u.ownBlock = some k → v.ownBlock ≠ some k) (ho : w.ownsRow B T c u n cs) : ∀ k, u.ownBlock = some k → v'.ownBlock ≠ some k := fun k e e' => by
  rcases hn with h | h
  · rw [h] at e'; exact hu k e e'
  · have := h k e'; have := (World.ownsRow.lt ho k e).2; omega
/- One more event behind those that happened. -/
theorem SCo.event {w3 : World} {ve' : Value} {e : Ev} (h : SCo B H w td st l ve vx c) (hg : w.grownBy w3 ve.ownBlock) (hn : NewRow w ve ve') (hr : w3.ownsRow B 50 7 ve' (c.ev.length + 1) (cellsL c.ev ++ e.cs)) :
    SCo B H (w3.setCell ⟨H, 0, none⟩ ve') td st l ve' vx ⟨c.td, c.st, c.ev ++ [e], c.em⟩ := by
  have h1 : Turns (fun k => ve.ownBlock = some k) w w3 := (Turns.refl _ w).grown hg (fun k e => e)
  have h2 : Turns (fun k => k = H) w3 (w3.setCell ⟨H, 0, none⟩ ve') := put1_turns w3 H 0 ve'
  have hH3 : Bk w3 H 31 #[ve, vx, .int .i64 (-1), .bool false] := h.hb.turns h1 (fun e => row_off h.hb h.es (by decide) H e rfl)
  have hto := owns_turns h.to h1 h.ap
  have hxs := owns_turns h.xs h1 (fun k e e' => apart_blocks h.xs h.es (by decide) e e')
  have hss := h.ss.turns h1 (fun k hk => hk.2.2.2.1) (fun k e e' => apart_blocks h.ss.row h.es (by decide) e e')
  have s3 : w.heap.size ≤ w3.heap.size := hg.size
  refine ⟨owns_turns hto h2 (row_off hH3 hto (by decide)), (hss.turns h2 (fun k hk e' => by have := hk.1; have := h.lo; omega) (row_off hH3 hss.row (by decide))).mono fun k hk => ⟨hk.1, by have := hk.2.1; simp; omega, hk.2.2.1, ?_, hk.2.2.2.2⟩, h.sl, (hH3.put 0 ve'), ?_, owns_turns hxs h2 (row_off hH3 hxs (by decide)), newRow_ne hn h.ap h.to, h.lo⟩
  · intro e'
    rcases hn with q | q
    · rw [q] at e'; exact hk.2.2.2.1 e'
    · have := q k e'; have := hk.2.1; omega
  · have hr' : OwnR B w3 ve' (c.ev ++ [e]) := by
      unfold OwnR
      rw [cellsL_append, List.length_append]
      simpa [cellsL] using hr
    exact owns_turns hr' h2 (row_off hH3 hr' (by decide))
/- What was told goes behind. -/
theorem SCo.emits {w3 : World} {vx' : Value} {x : List Em} (h : SCo B H w td st l ve vx c) (hg : w.grownBy w3 vx.ownBlock) (hn : NewRow w vx vx') (hr : w3.ownsRow B 61 3 vx' (c.em.length + x.length) (cellsX c.em ++ cellsX x)) :
    SCo B H (w3.setCell ⟨H, 1, none⟩ vx') td st l ve vx' ⟨c.td, c.st, c.ev, c.em ++ x⟩ := by
  have h1 : Turns (fun k => vx.ownBlock = some k) w w3 := (Turns.refl _ w).grown hg (fun k e => e)
  have h2 : Turns (fun k => k = H) w3 (w3.setCell ⟨H, 1, none⟩ vx') := put1_turns w3 H 1 vx'
  have hH3 : Bk w3 H 31 #[ve, vx, .int .i64 (-1), .bool false] := h.hb.turns h1 (fun e => row_off h.hb h.xs (by decide) H e rfl)
  have hto := owns_turns h.to h1 (fun k e e' => apart_blocks h.to h.xs (by decide) e e')
  have hes := owns_turns h.es h1 (fun k e e' => apart_blocks h.es h.xs (by decide) e e')
  have hss := h.ss.turns h1 (fun k hk => hk.2.2.2.2) (fun k e e' => apart_blocks h.ss.row h.xs (by decide) e e')
  have s3 : w.heap.size ≤ w3.heap.size := hg.size
  refine ⟨owns_turns hto h2 (row_off hH3 hto (by decide)), (hss.turns h2 (fun k hk e' => by have := hk.1; have := h.lo; omega) (row_off hH3 hss.row (by decide))).mono fun k hk => ⟨hk.1, by have := hk.2.1; simp; omega, hk.2.2.1, hk.2.2.2.1, ?_⟩, h.sl, (hH3.put 1 vx'), owns_turns hes h2 (row_off hH3 hes (by decide)), ?_, h.ap, h.lo⟩
  · intro e'
    rcases hn with q | q
    · rw [q] at e'; exact hk.2.2.2.2 e'
    · have := q k e'; have := hk.2.1; omega
  · rw [cellsX_append, List.length_append]
    exact owns_turns hr h2 (row_off hH3 hr (by decide))
abbrev put4h (w : World) (P : Nat) (v0 v1 v2 v3 : Value) : World := (((w.setCell ⟨P, 0, none⟩ v0).setCell ⟨P, 1, none⟩ v1).setCell ⟨P, 2, none⟩ v2).setCell ⟨P, 3, none⟩ v3
theorem put4h_turns (w : World) (P : Nat) (v0 v1 v2 v3 : Value) : Turns (fun b => b = P) w (put4h w P v0 v1 v2 v3) :=
  (((put1_turns w P 0 v0).trans (put1_turns _ P 1 v1)).trans (put1_turns _ P 2 v2)).trans (put1_turns _ P 3 v3)
theorem Bk.put4h {P : Nat} {T : TypeId} {a0 a1 a2 a3 : Value} (h : Bk w P T #[a0, a1, a2, a3]) (v0 v1 v2 v3 : Value) : Bk (put4h w P v0 v1 v2 v3) P T #[v0, v1, v2, v3] :=
  (((h.put 0 v0).put 1 v1).put 2 v2).put 3 v3
/- The end: the history as it stands. -/
theorem SCo.done {S : Nat → Prop} {we : World} (h : SCo B H w td st l ve vx c) (hT : Turns S w we) (hS : ∀ k, S k → k < B) (k : Int) (f : Bool) :
    HiF (fun j => B ≤ j ∧ j < we.heap.size) we (.agg #[ve, vx, .int .i64 k, .bool f]) ⟨c.ev, c.em, k, f⟩ :=
  hi_of (owns_turns h.es hT (fun j e hj => by have := (World.ownsRow.lt h.es j e).1; have := hS j hj; omega)) (owns_turns h.xs hT (fun j e hj => by have := (World.ownsRow.lt h.xs j e).1; have := hS j hj; omega))
end
end Go.Proofs.YtmpoffepoafblaaGreat

/- A program's course in memory: one block holds the model, what is decided, the states, where the heap lies, the history. -/
namespace Go.Proofs.YtmpoffepoafblaaGreat
open Go.RowKit
/- The cells of a course. -/
def courseL (ms : List Value) (c0 c1 c2 c3 : Int) (l : List Pt) (P : Nat) (ve vx : Value) (k : Int) (f : Bool) : List Value :=
  ms ++ ([.int .i64 c0, .int .i64 c1, .int .i64 c2, .int .i64 c3] ++ (cellsT l ++ [pv P, ve, vx, .int .i64 k, .bool f]))
/- The blocks since B, but for those of the course, of the heap and of the rows. -/
def AP (B : Nat) (w : World) (Cb P : Nat) (v ve vx : Value) (k : Nat) : Prop := (B ≤ k ∧ k < w.heap.size) ∧ k ≠ Cb ∧ k ≠ P ∧ v.ownBlock ≠ some k ∧ ve.ownBlock ≠ some k ∧ vx.ownBlock ≠ some k
structure PCo (B Cb P : Nat) (w : World) (ms : List Value) (c0 c1 c2 c3 : Int) (l : List Pt) (v ve vx : Value) (c : Co) : Prop where
  pl : Pl w B P v c.td
  cb : Bk w Cb 117 (courseL ms c0 c1 c2 c3 l P ve vx (-1) false).toArray
  m6 : ms.length = 6
  l4 : l.length = 4
  ss : ∀ j, j < 4 → RowF (AP B w Cb P v ve vx) w (tAt l j).1 (tAt l j).2.r.length 1 (intCells (tAt l j).2.r)
  sl : ∀ j, j < c.st.length → (tAt l j).2 = stAt c.st j
  es : OwnR B w ve c.ev
  xs : w.ownsRow B 61 3 vx c.em.length (cellsX c.em)
  ap : ∀ k, v.ownBlock = some k → ve.ownBlock ≠ some k
  lo : B ≤ Cb
section
variable {B Cb P : Nat} {w w' : World} {ms : List Value} {c0 c1 c2 c3 : Int} {l : List Pt} {v ve vx : Value} {c : Co}
theorem rowOff {H : Nat} {U T : TypeId} {n k : Nat} {v : Value} {cs : List Value} {vs : Array Value} (hH : Bk w H U vs) (ho : w.ownsRow B T n v k cs) (hT : T ≠ U) : ∀ j, v.ownBlock = some j → ¬ j = H := fun j e e' => by
  subst e'
  exact Bk.off hH ho hT e.symm
theorem Pl.bk {l : List Ev} (h : Pl w B P v l) : Bk w P 245 #[v] := h.box
theorem PCo.cp (h : PCo B Cb P w ms c0 c1 c2 c3 l v ve vx c) : Cb ≠ P := fun e => by
  have h1 := h.pl.bk
  have h2 := h.cb
  unfold Bk at h1 h2
  rw [e, h1] at h2
  simp at h2
theorem PCo.below (h : PCo B Cb P w ms c0 c1 c2 c3 l v ve vx c) (hb : Below w.heap.size w w') : PCo B Cb P w' ms c0 c1 c2 c3 l v ve vx c :=
  ⟨h.pl.turns (S := fun _ => False) (Turns.of_below hb) id (fun _ _ => id), h.cb.below hb, h.m6, h.l4, fun j hj => ((h.ss j hj).below hb).mono fun _ hk => ⟨⟨hk.1.1, Nat.lt_of_lt_of_le hk.1.2 hb.size⟩, hk.2⟩, h.sl, h.es.below hb, owns_turns (S := fun _ => False) h.xs (Turns.of_below hb) (fun _ _ => id), h.ap, h.lo⟩
/- The heap turned, and nothing else. -/
theorem PCo.todo (h : PCo B Cb P w ms c0 c1 c2 c3 l v ve vx c) {v' : Value} {t : List Ev} (ht : Turns (fun k => k = P ∨ v.ownBlock = some k) w w') (hp : Pl w' B P v' t) (hn : NewRow w v v') : PCo B Cb P w' ms c0 c1 c2 c3 l v' ve vx ⟨t, c.st, c.ev, c.em⟩ := by
  have hoff : ∀ {T : TypeId} {n k : Nat} {u : Value} {cs : List Value}, w.ownsRow B T n u k cs → T ≠ 245 → (∀ j, u.ownBlock = some j → v.ownBlock ≠ some j) → ∀ j, u.ownBlock = some j → ¬ (j = P ∨ v.ownBlock = some j) := fun ho hT hd j e hj => hj.elim (rowOff h.pl.bk ho hT j e) (hd j e)
  refine ⟨hp, h.cb.turns ht (fun e => e.elim h.cp (fun e => rowOff h.cb h.pl.row (by decide) _ e rfl)), h.m6, h.l4, fun j hj => ((h.ss j hj).turns ht (fun k hk e => e.elim hk.2.2.1 hk.2.2.2.1)).mono fun k hk => ⟨⟨hk.1.1, Nat.lt_of_lt_of_le hk.1.2 ht.size⟩, hk.2.1, hk.2.2.1, fun e => ?_, hk.2.2.2.2⟩, h.sl, owns_turns h.es ht (hoff h.es (by decide) (fun j e e' => h.ap j e' e)), owns_turns h.xs ht (hoff h.xs (by decide) (fun j e e' => apart_blocks h.xs h.pl.row (by decide) e e')), fun k e e' => ?_, h.lo⟩
  · rcases hn with q | q
    · rw [q] at e; exact hk.2.2.2.1 e
    · have := q k e; have := hk.1.2; omega
  · rcases hn with q | q
    · rw [q] at e; exact h.ap k e e'
    · have := q k e; have := (World.ownsRow.lt h.es k e').2; omega
theorem course_ev (hm : ms.length = 6) (hl : l.length = 4) (k : Int) (f : Bool) (ve' : Value) : (courseL ms c0 c1 c2 c3 l P ve vx k f).toArray.setIfInBounds 23 ve' = (courseL ms c0 c1 c2 c3 l P ve' vx k f).toArray := by
  obtain ⟨a0, a1, a2, a3, a4, a5, rfl⟩ := list6 hm
  obtain ⟨p0, p1, p2, p3, rfl⟩ := list4 hl
  rfl
theorem course_em (hm : ms.length = 6) (hl : l.length = 4) (k : Int) (f : Bool) (vx' : Value) : (courseL ms c0 c1 c2 c3 l P ve vx k f).toArray.setIfInBounds 24 vx' = (courseL ms c0 c1 c2 c3 l P ve vx' k f).toArray := by
  obtain ⟨a0, a1, a2, a3, a4, a5, rfl⟩ := list6 hm
  obtain ⟨p0, p1, p2, p3, rfl⟩ := list4 hl
  rfl
theorem course_asks (hm : ms.length = 6) (hl : l.length = 4) (k k' : Int) (f : Bool) : (courseL ms c0 c1 c2 c3 l P ve vx k f).toArray.setIfInBounds 25 (.int .i64 k') = (courseL ms c0 c1 c2 c3 l P ve vx k' f).toArray := by
  obtain ⟨a0, a1, a2, a3, a4, a5, rfl⟩ := list6 hm
  obtain ⟨p0, p1, p2, p3, rfl⟩ := list4 hl
  rfl
theorem course_full (hm : ms.length = 6) (hl : l.length = 4) (k : Int) (f f' : Bool) : (courseL ms c0 c1 c2 c3 l P ve vx k f).toArray.setIfInBounds 26 (.bool f') = (courseL ms c0 c1 c2 c3 l P ve vx k f').toArray := by
  obtain ⟨a0, a1, a2, a3, a4, a5, rfl⟩ := list6 hm
  obtain ⟨p0, p1, p2, p3, rfl⟩ := list4 hl
  rfl
theorem course_st (hm : ms.length = 6) (hl : l.length = 4) (k : Int) (f : Bool) {i : Nat} (hi : i < 4) (p : Pt) : ((((courseL ms c0 c1 c2 c3 l P ve vx k f).toArray.setIfInBounds (10 + i * 3) p.1).setIfInBounds (10 + i * 3 + 1) (.int .i64 p.2.q)).setIfInBounds (10 + i * 3 + 2) (.int .i64 p.2.d)) = (courseL ms c0 c1 c2 c3 (l.set i p) P ve vx k f).toArray := by
  obtain ⟨a0, a1, a2, a3, a4, a5, rfl⟩ := list6 hm
  obtain ⟨p0, p1, p2, p3, rfl⟩ := list4 hl
  match i, hi with
  | 0, _ => rfl
  | 1, _ => rfl
  | 2, _ => rfl
  | 3, _ => rfl
theorem course_td (hm : ms.length = 6) (hl : l.length = 4) (k : Int) (f : Bool) : (courseL ms c0 c1 c2 c3 l P ve vx k f).toArray[22]? = some (pv P) ∧ (courseL ms c0 c1 c2 c3 l P ve vx k f).toArray[23]? = some ve ∧ (courseL ms c0 c1 c2 c3 l P ve vx k f).toArray[24]? = some vx ∧ (courseL ms c0 c1 c2 c3 l P ve vx k f).toArray[25]? = some (.int .i64 k) ∧ (courseL ms c0 c1 c2 c3 l P ve vx k f).toArray[26]? = some (.bool f) := by
  obtain ⟨a0, a1, a2, a3, a4, a5, rfl⟩ := list6 hm
  obtain ⟨p0, p1, p2, p3, rfl⟩ := list4 hl
  exact ⟨rfl, rfl, rfl, rfl, rfl⟩
theorem course_dec (hm : ms.length = 6) (k : Int) (f : Bool) : (courseL ms c0 c1 c2 c3 l P ve vx k f).toArray[6]? = some (.int .i64 c0) ∧ (courseL ms c0 c1 c2 c3 l P ve vx k f).toArray[7]? = some (.int .i64 c1) ∧ (courseL ms c0 c1 c2 c3 l P ve vx k f).toArray[8]? = some (.int .i64 c2) ∧ (courseL ms c0 c1 c2 c3 l P ve vx k f).toArray[9]? = some (.int .i64 c3) := by
  obtain ⟨a0, a1, a2, a3, a4, a5, rfl⟩ := list6 hm
  exact ⟨rfl, rfl, rfl, rfl⟩
theorem course_at (hm : ms.length = 6) (hl : l.length = 4) (k : Int) (f : Bool) {i : Nat} (hi : i < 4) : (courseL ms c0 c1 c2 c3 l P ve vx k f).toArray[10 + i * 3]? = some (tAt l i).1 ∧ (courseL ms c0 c1 c2 c3 l P ve vx k f).toArray[10 + i * 3 + 1]? = some (.int .i64 (tAt l i).2.q) ∧ (courseL ms c0 c1 c2 c3 l P ve vx k f).toArray[10 + i * 3 + 2]? = some (.int .i64 (tAt l i).2.d) := by
  obtain ⟨a0, a1, a2, a3, a4, a5, rfl⟩ := list6 hm
  obtain ⟨p0, p1, p2, p3, rfl⟩ := list4 hl
  match i, hi with
  | 0, _ => exact ⟨rfl, rfl, rfl⟩
  | 1, _ => exact ⟨rfl, rfl, rfl⟩
  | 2, _ => exact ⟨rfl, rfl, rfl⟩
  | 3, _ => exact ⟨rfl, rfl, rfl⟩
/- A state is put in its place. -/
theorem PCo.state (h : PCo B Cb P w ms c0 c1 c2 c3 l v ve vx c) {i : Nat} (hi : i < c.st.length) (hi4 : i < 4) (p : Pt) (hp : RowF (AP B w Cb P v ve vx) w p.1 p.2.r.length 1 (intCells p.2.r)) :
    PCo B Cb P (put3o w Cb (10 + i * 3) p.1 (.int .i64 p.2.q) (.int .i64 p.2.d)) ms c0 c1 c2 c3 (l.set i p) v ve vx ⟨c.td, c.st.set i p.2, c.ev, c.em⟩ := by
  have ht := put3o_turns w Cb (10 + i * 3) p.1 (.int .i64 p.2.q) (.int .i64 p.2.d)
  have hsz : (put3o w Cb (10 + i * 3) p.1 (.int .i64 p.2.q) (.int .i64 p.2.d)).heap.size = w.heap.size := by simp
  have hil : i < l.length := by rw [h.l4]; exact hi4
  have hA : ∀ k, AP B w Cb P v ve vx k → AP B (put3o w Cb (10 + i * 3) p.1 (.int .i64 p.2.q) (.int .i64 p.2.d)) Cb P v ve vx k := fun k hk => ⟨⟨hk.1.1, by rw [hsz]; exact hk.1.2⟩, hk.2⟩
  refine ⟨h.pl.turns ht (fun e => h.cp e.symm) (rowOff h.cb h.pl.row (by decide)), ?_, h.m6, by rw [List.length_set]; exact h.l4, fun j hj => ?_, fun j hj => ?_, owns_turns h.es ht (rowOff h.cb h.es (by decide)), owns_turns h.xs ht (rowOff h.cb h.xs (by decide)), h.ap, h.lo⟩
  · have h3 := ((h.cb.put (10 + i * 3) p.1).put (10 + i * 3 + 1) (.int .i64 p.2.q)).put (10 + i * 3 + 2) (.int .i64 p.2.d)
    rw [course_st h.m6 h.l4 _ _ hi4 p] at h3
    exact h3
  · rw [tAt_set _ _ _ _ hil]
    split
    · exact (hp.turns ht (fun k hk e => hk.2.1 e)).mono hA
    · exact ((h.ss j hj).turns ht (fun k hk e => hk.2.1 e)).mono hA
  · have hj' : j < c.st.length := by simpa using hj
    show (tAt (l.set i p) j).2 = stAt (c.st.set i p.2) j
    rw [tAt_set _ _ _ _ hil, stAt_set _ _ _ _ hi]
    split
    · rfl
    · exact h.sl j hj'
/- One more event behind those that happened. -/
theorem PCo.event {w3 : World} {ve' : Value} {e : Ev} (h : PCo B Cb P w ms c0 c1 c2 c3 l v ve vx c) (hg : w.grownBy w3 ve.ownBlock) (hn : NewRow w ve ve') (hr : w3.ownsRow B 50 7 ve' (c.ev.length + 1) (cellsL c.ev ++ e.cs)) :
    PCo B Cb P (w3.setCell ⟨Cb, 23, none⟩ ve') ms c0 c1 c2 c3 l v ve' vx ⟨c.td, c.st, c.ev ++ [e], c.em⟩ := by
  have h1 : Turns (fun k => ve.ownBlock = some k) w w3 := (Turns.refl _ w).grown hg (fun k e => e)
  have h2 : Turns (fun k => k = Cb) w3 (w3.setCell ⟨Cb, 23, none⟩ ve') := put1_turns w3 Cb 23 ve'
  have hc3 : Bk w3 Cb 117 (courseL ms c0 c1 c2 c3 l P ve vx (-1) false).toArray := h.cb.turns h1 (fun e => rowOff h.cb h.es (by decide) Cb e rfl)
  have hp3 : Pl w3 B P v c.td := h.pl.turns h1 (fun e => rowOff h.pl.bk h.es (by decide) P e rfl) h.ap
  have hxs := owns_turns h.xs h1 (fun k e e' => apart_blocks h.xs h.es (by decide) e e')
  have s3 : w.heap.size ≤ w3.heap.size := hg.size
  refine ⟨hp3.turns h2 (fun e => h.cp e.symm) (rowOff hc3 hp3.row (by decide)), ?_, h.m6, h.l4, fun j hj => ((((h.ss j hj).turns h1 (fun k hk => hk.2.2.2.2.1)).turns h2 (fun k hk => hk.2.1))).mono fun k hk => ⟨⟨hk.1.1, by have := hk.1.2; simp; omega⟩, hk.2.1, hk.2.2.1, hk.2.2.2.1, ?_, hk.2.2.2.2.2⟩, h.sl, ?_, owns_turns hxs h2 (rowOff hc3 hxs (by decide)), newRow_ne hn h.ap h.pl.row, h.lo⟩
  · have h3 := hc3.put 23 ve'
    rw [course_ev h.m6 h.l4] at h3
    exact h3
  · intro e'
    rcases hn with q | q
    · rw [q] at e'; exact hk.2.2.2.2.1 e'
    · have := q k e'; have := hk.1.2; omega
  · have hr' : OwnR B w3 ve' (c.ev ++ [e]) := by
      unfold OwnR
      rw [cellsL_append, List.length_append]
      simpa [cellsL] using hr
    exact owns_turns hr' h2 (rowOff hc3 hr' (by decide))
/- What was told goes behind. -/
theorem PCo.emits {w3 : World} {vx' : Value} {x : List Em} (h : PCo B Cb P w ms c0 c1 c2 c3 l v ve vx c) (hg : w.grownBy w3 vx.ownBlock) (hn : NewRow w vx vx') (hr : w3.ownsRow B 61 3 vx' (c.em.length + x.length) (cellsX c.em ++ cellsX x)) :
    PCo B Cb P (w3.setCell ⟨Cb, 24, none⟩ vx') ms c0 c1 c2 c3 l v ve vx' ⟨c.td, c.st, c.ev, c.em ++ x⟩ := by
  have h1 : Turns (fun k => vx.ownBlock = some k) w w3 := (Turns.refl _ w).grown hg (fun k e => e)
  have h2 : Turns (fun k => k = Cb) w3 (w3.setCell ⟨Cb, 24, none⟩ vx') := put1_turns w3 Cb 24 vx'
  have hc3 : Bk w3 Cb 117 (courseL ms c0 c1 c2 c3 l P ve vx (-1) false).toArray := h.cb.turns h1 (fun e => rowOff h.cb h.xs (by decide) Cb e rfl)
  have hp3 : Pl w3 B P v c.td := h.pl.turns h1 (fun e => rowOff h.pl.bk h.xs (by decide) P e rfl) (fun k e e' => apart_blocks h.pl.row h.xs (by decide) e e')
  have hes := owns_turns h.es h1 (fun k e e' => apart_blocks h.es h.xs (by decide) e e')
  have s3 : w.heap.size ≤ w3.heap.size := hg.size
  refine ⟨hp3.turns h2 (fun e => h.cp e.symm) (rowOff hc3 hp3.row (by decide)), ?_, h.m6, h.l4, fun j hj => ((((h.ss j hj).turns h1 (fun k hk => hk.2.2.2.2.2)).turns h2 (fun k hk => hk.2.1))).mono fun k hk => ⟨⟨hk.1.1, by have := hk.1.2; simp; omega⟩, hk.2.1, hk.2.2.1, hk.2.2.2.1, hk.2.2.2.2.1, ?_⟩, h.sl, owns_turns hes h2 (rowOff hc3 hes (by decide)), ?_, h.ap, h.lo⟩
  · have h3 := hc3.put 24 vx'
    rw [course_em h.m6 h.l4] at h3
    exact h3
  · intro e'
    rcases hn with q | q
    · rw [q] at e'; exact hk.2.2.2.2.2 e'
    · have := q k e'; have := hk.1.2; omega
  · rw [cellsX_append, List.length_append]
    exact owns_turns hr h2 (rowOff hc3 hr (by decide))
/- The end: the history as it stands. -/
theorem PCo.done {S : Nat → Prop} {we : World} (h : PCo B Cb P w ms c0 c1 c2 c3 l v ve vx c) (hT : Turns S w we) (hS : ∀ k, S k → k < B ∨ k = Cb) (k : Int) (f : Bool) :
    HiF (fun j => B ≤ j ∧ j < we.heap.size) we (.agg #[ve, vx, .int .i64 k, .bool f]) ⟨c.ev, c.em, k, f⟩ :=
  hi_of (owns_turns h.es hT (fun j e hj => by have := (World.ownsRow.lt h.es j e).1; rcases hS j hj with q | q; omega; exact rowOff h.cb h.es (by decide) j e q)) (owns_turns h.xs hT (fun j e hj => by have := (World.ownsRow.lt h.xs j e).1; rcases hS j hj with q | q; omega; exact rowOff h.cb h.xs (by decide) j e q))
end
end Go.Proofs.YtmpoffepoafblaaGreat

/- append of nothing; an event just laid, cell by cell. -/
namespace Go.Proofs.YtmpoffepoafblaaGreat
open Go.RowKit
theorem run_append_zero {P : Program} {w : World} (base : Nat) (t ty e : TypeId) (i : TypeInfo) (size : Nat) (ht : P.underlying t = some (.slice e)) (hi : P.info? e = some i)
    (v : Value) (n c : Nat) (xs : List Value) (hown : w.ownsRow base e size v n xs) :
    (Builtin.append_ #[t, t] ty #[v, .slice none 0 c]).run P w = .ok v w := by
  rcases hown.2 with ⟨rfl, rfl⟩ | ⟨g, cap, cur, rfl, _, _, hnc, _⟩
  · simp [Builtin.append_, run_underlying ht, sizeOf, typeInfo, hi, Builtin.lenOf, Builtin.firstCells]
  · simp [Builtin.append_, run_underlying ht, sizeOf, typeInfo, hi, Builtin.lenOf, Builtin.firstCells, hnc, storeCells]
theorem wpList_append_zero {P : Program} {w : World} {ops : Array Oper} {rest : List Oper} {o : Oper} {a : Act} {Q : Exit → Act → World → Prop} (hgd : o.guard = none) (s x : Operand) (t : TypeId)
    (ho : o.op = .call { callee := .builtin .append, args := #[s, x], argTypes := #[t, t] })
    (base : Nat) (e : TypeId) (i : TypeInfo) (size : Nat) (ht : P.underlying t = some (.slice e)) (hi : P.info? e = some i)
    (v : Value) (n c : Nat) (xs : List Value) (hs : a.eval s = v) (hown : w.ownsRow base e size v n xs) {m : Nat} (hx : a.eval x = .slice none m c) (hm : m = 0)
    (h : wpList P ops Q rest (a.put o.dst v) w) : wpList P ops Q (o :: rest) a w := by
  subst hm
  refine wpList_plain hgd fun K hK => ?_
  have hrun := run_append_zero (P := P) (w := w) base t o.type e i size ht hi v n c xs hown
  unfold Oper.wp
  simp [execOp, ho, resolve, invoke, builtin, hs, hx, hrun, Result.andThen]
  exact hK _ _ h
theorem new7 (w : World) (T : TypeId) (a0 a1 a2 a3 a4 a5 a6 : Value) : ∀ j u, [a0, a1, a2, a3, a4, a5, a6][j]? = some u → (w.alloc (.cells #[a0, a1, a2, a3, a4, a5, a6] T)).cell? (Addr.add ⟨w.heap.size, 0, none⟩ j) = some u := by
  intro j u h
  have hB := Bk.new w T #[a0, a1, a2, a3, a4, a5, a6]
  rw [addr_add]
  exact hB.cell (by simpa using h)
theorem one7 {t s q d k v g : Int} : ∀ u ∈ [Value.int .i64 t, .int .i64 s, .int .i64 q, .int .i64 d, .int .i64 k, .int .i64 v, .int .i64 g], u.oneCell' = true := by
  intro u hu
  simp only [List.mem_cons, List.not_mem_nil, or_false] at hu
  rcases hu with rfl | rfl | rfl | rfl | rfl | rfl | rfl <;> rfl
theorem grown_self (w : World) (row : Option Nat) : w.grownBy w row := ⟨rfl, rfl, rfl, Nat.le_refl _, fun _ _ _ => rfl⟩
end Go.Proofs.YtmpoffepoafblaaGreat

