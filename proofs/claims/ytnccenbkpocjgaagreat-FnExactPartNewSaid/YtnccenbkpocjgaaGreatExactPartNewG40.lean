/- MOpen, LawPartNewW -/
import Derived.Test.YtnccenbkpocjgaaGreatExactPartNewG08
import Derived.Test.YtnccenbkpocjgaaGreatExactPartNewG39
import Derived.SizedLaws
import Derived.Test.YtnccenbkpocjgaaGreatExactPartNewG13
import Derived.Test.YtnccenbkpocjgaaGreatExactPartNewG19
import Derived.Test.YtnccenbkpocjgaaGreatExactPartNewG15
import Derived.Deep.Cut
import Derived.Deep.RegionHeld3
/- How a model that came in is read. -/
namespace Go.Proofs.YtnccenbkpocjgaaGreat
open Go.ChangeShapes Go.WideShapes Go.ChangeAt Go.RowKit
theorem cellsOp : Tryz.prog.cellsOf 175 = 4 := by kernel_rfl
theorem cellsRow : Tryz.prog.cellsOf 119 = 1 := by kernel_rfl
theorem cellsRows : Tryz.prog.cellsOf 23 = 1 := by kernel_rfl
theorem cellsInts : Tryz.prog.cellsOf 22 = 1 := by kernel_rfl
theorem cellsEvs : Tryz.prog.cellsOf 24 = 1 := by kernel_rfl
theorem cellsM : Tryz.prog.cellsOf 26 = 6 := by kernel_rfl
theorem list4 {α : Type} {l : List α} (h : l.length = 4) : ∃ a b c d, l = [a, b, c, d] := by
 match l, h with
 | [a, b, c, d], _ => exact ⟨a, b, c, d, rfl⟩
theorem list6 {α : Type} {l : List α} (h : l.length = 6) : ∃ a b c d e f, l = [a, b, c, d, e, f] := by
 match l, h with
 | [a, b, c, d, e, f], _ => exact ⟨a, b, c, d, e, f, rfl⟩
set_option maxRecDepth 100000 in
theorem trod_op {H : Type} {enc : TypeId × Value → H} {w : World} {base : Nat} {spare : Nat → Bool} {held : Bool} {fuel : Nat} {cs : List Value} {x : DataW H × List MemPlace}
  (h : DataW.trod enc Tryz.prog w base spare held fuel 175 cs = some x) : ∃ c a b k : Int, cs = [.int .i64 c, .int .i64 a, .int .i64 b, .int .i64 k] ∧ wfI c ∧ wfI a ∧ wfI b ∧ wfI k := by
 obtain ⟨xs, n, _, rfl, hl, hlen, hf⟩ := DataW.trod_struct Tryz.underlying175 h
 rw [cellsOp] at hl
 obtain ⟨c0, c1, c2, c3, rfl⟩ := list4 hl
 have hx : xs.length = 4 := by simpa using hlen
 obtain ⟨y0, y1, y2, y3, rfl⟩ := list4 hx
 have h0 := hf 0 _ rfl
 have h1 := hf 1 _ rfl
 have h2 := hf 2 _ rfl
 have h3 := hf 3 _ rfl
 obtain ⟨a0, e0, _, w0⟩ := DataW.trod_int Tryz.underlying3 h0
 obtain ⟨a1, e1, _, w1⟩ := DataW.trod_int Tryz.underlying3 h1
 obtain ⟨a2, e2, _, w2⟩ := DataW.trod_int Tryz.underlying3 h2
 obtain ⟨a3, e3, _, w3⟩ := DataW.trod_int Tryz.underlying3 h3
 simp [cells3] at e0 e1 e2 e3
 subst e0 e1 e2 e3
 exact ⟨a0, a1, a2, a3, rfl, w0, w1, w2, w3⟩
set_option maxRecDepth 100000 in
theorem trod_ints {H : Type} {enc : TypeId × Value → H} {w : World} {spare : Nat → Bool} {held : Bool} {fuel : Nat} {cs : List Value} {x : DataW H × List MemPlace}
  (hf : DataW.trod enc Tryz.prog w 0 spare held fuel 22 cs = some x) : ∃ v l, cs = [v] ∧ IsI w v l := by
 rcases DataW.trod_slice Tryz.underlying22 hf with ⟨rfl, _⟩ | ⟨a, len, cap, elems, rest, n, _, rfl, _, hb, hl, hm, hlen, hel, _, _⟩
 ·exact ⟨_, [], rfl, none, 0, rfl, Nat.le_refl _, by unfold maxLen; omega, .inl rfl⟩
 ·by_cases h0 : len = 0
  ·subst h0
   exact ⟨_, [], rfl, _, _, rfl, hl, hm, .inl rfl⟩
  ·obtain ⟨b, off, spot⟩ := a
   have hs : spot = none := by
    have h1 := hel 0 (by omega)
    rw [cells3, List.getElem?_eq_getElem (by omega)] at h1
    obtain ⟨cs, hc, ht⟩ := Option.bind_eq_some_iff.1 h1
    obtain ⟨t, rfl, _⟩ := DataW.trod_int Tryz.underlying3 ht
    have c0 := (World.cells?_some hc).2.2 0 (by omega)
    simpa [Addr.add] using World.cell?_spot c0
   subst hs
   have each : ∀ i, i < len → ∃ z : Int, w.cell? ⟨b, off + i, none⟩ = some (.int .i64 z) ∧ b < w.heap.size := by
    intro i hi
    have h1 := hel i hi
    rw [cells3, List.getElem?_eq_getElem (by omega), add_plain] at h1
    obtain ⟨cs, hc, ht⟩ := Option.bind_eq_some_iff.1 h1
    obtain ⟨t, rfl, _, hw⟩ := DataW.trod_int Tryz.underlying3 ht
    have hblk : b < w.heap.size := World.cells?_block hc (by omega)
    obtain ⟨_, _, hcell⟩ := World.cells?_some hc
    have h2 := hcell 0 (by omega)
    simp only [add_plain] at h2
    exact ⟨t, by simpa using h2, hblk⟩
   obtain ⟨_, _, hblk⟩ := each 0 (by omega)
   obtain ⟨l, rfl, hi⟩ := ints_list (w := w) (b := b) (off := off) len (fun i hi => by
    obtain ⟨e, he, _⟩ := each i hi
    exact ⟨e, he⟩)
   exact ⟨_, l, rfl, _, _, rfl, hl, hm, .inr ⟨b, off, rfl, hblk, hi⟩⟩
set_option maxRecDepth 100000 in
theorem trod_evs {H : Type} {enc : TypeId × Value → H} {w : World} {spare : Nat → Bool} {held : Bool} {fuel : Nat} {cs : List Value} {x : DataW H × List MemPlace}
  (hf : DataW.trod enc Tryz.prog w 0 spare held fuel 24 cs = some x) : ∃ v l, cs = [v] ∧ IsEvs w v l := by
 rcases DataW.trod_slice Tryz.underlying24 hf with ⟨rfl, _⟩ | ⟨a, len, cap, elems, rest, n, _, rfl, _, hb, hl, hm, hlen, hel, _, _⟩
 ·exact ⟨_, [], rfl, none, 0, rfl, Nat.le_refl _, by unfold maxLen; omega, .inl rfl⟩
 ·by_cases h0 : len = 0
  ·subst h0
   exact ⟨_, [], rfl, _, _, rfl, hl, hm, .inl rfl⟩
  ·obtain ⟨b, off, spot⟩ := a
   have hs : spot = none := by
    have h1 := hel 0 (by omega)
    rw [cells23, List.getElem?_eq_getElem (by omega)] at h1
    obtain ⟨cs, hc, ht⟩ := Option.bind_eq_some_iff.1 h1
    obtain ⟨t, s, q, d, k, v, g, rfl, _⟩ := trod_ev ht
    have c0 := (World.cells?_some hc).2.2 0 (by omega)
    simpa [Addr.add] using World.cell?_spot c0
   subst hs
   have each : ∀ i, i < len → ∃ e : Ev, Ev.In w b (off + i * 7) e ∧ b < w.heap.size := by
    intro i hi
    have h1 := hel i hi
    rw [cells23, List.getElem?_eq_getElem (by omega), add_plain] at h1
    obtain ⟨cs, hc, ht⟩ := Option.bind_eq_some_iff.1 h1
    obtain ⟨t, s, q, d, k, v, g, rfl, _⟩ := trod_ev ht
    have hblk : b < w.heap.size := World.cells?_block hc (by omega)
    obtain ⟨_, _, hcell⟩ := World.cells?_some hc
    simp only [add_plain] at hcell
    exact ⟨⟨t, s, q, d, k, v, g⟩, ⟨hcell 0 (by omega), hcell 1 (by omega), hcell 2 (by omega), hcell 3 (by omega), hcell 4 (by omega), hcell 5 (by omega), hcell 6 (by omega)⟩, hblk⟩
   obtain ⟨_, _, hblk⟩ := each 0 (by omega)
   obtain ⟨l, rfl, hi⟩ := evs_list (w := w) (b := b) (off := off) len (fun i hi => by
    obtain ⟨e, he, _⟩ := each i hi
    exact ⟨e, he⟩)
   exact ⟨_, l, rfl, _, _, rfl, hl, hm, .inr ⟨b, off, rfl, hblk, hi⟩⟩
theorem os_list {w : World} {b off : Nat} : ∀ n, (∀ i, i < n → ∃ e : O, OAt w b (off + i * 4) e) → ∃ l : List O, l.length = n ∧ ∀ i, i < n → OAt w b (off + i * 4) (oAt l i)
 | 0, _ => ⟨[], rfl, fun i hi => by omega⟩
 | n + 1, h => by
  obtain ⟨l, hl, hi⟩ := os_list n (fun i hi => h i (by omega))
  obtain ⟨e, he⟩ := h n (by omega)
  refine ⟨l ++ [e], by simp [hl], fun i hi' => ?_⟩
  by_cases hin : i < n
  ·have : oAt (l ++ [e]) i = oAt l i := by unfold oAt; simp [List.getElem?_append_left (by omega : i < l.length)]
   rw [this]; exact hi i hin
  ·have : oAt (l ++ [e]) i = e := by unfold oAt; simp [show i = l.length by omega]
   rw [this, show i = n by omega]; exact he
set_option maxRecDepth 100000 in
theorem trod_ops {H : Type} {enc : TypeId × Value → H} {w : World} {spare : Nat → Bool} {held : Bool} {fuel : Nat} {cs : List Value} {x : DataW H × List MemPlace}
  (hf : DataW.trod enc Tryz.prog w 0 spare held fuel 119 cs = some x) : ∃ v l, cs = [v] ∧ IsO w v l := by
 rcases DataW.trod_slice Tryz.underlying119 hf with ⟨rfl, _⟩ | ⟨a, len, cap, elems, rest, n, _, rfl, _, hb, hl, hm, hlen, hel, _, _⟩
 ·exact ⟨_, [], rfl, none, 0, rfl, Nat.le_refl _, by unfold maxLen; omega, .inl rfl⟩
 ·by_cases h0 : len = 0
  ·subst h0
   exact ⟨_, [], rfl, _, _, rfl, hl, hm, .inl rfl⟩
  ·obtain ⟨b, off, spot⟩ := a
   have hs : spot = none := by
    have h1 := hel 0 (by omega)
    rw [cellsOp, List.getElem?_eq_getElem (by omega)] at h1
    obtain ⟨cs, hc, ht⟩ := Option.bind_eq_some_iff.1 h1
    obtain ⟨c, a, b, k, rfl, _⟩ := trod_op ht
    have c0 := (World.cells?_some hc).2.2 0 (by omega)
    simpa [Addr.add] using World.cell?_spot c0
   subst hs
   have each : ∀ i, i < len → ∃ e : O, OAt w b (off + i * 4) e ∧ b < w.heap.size := by
    intro i hi
    have h1 := hel i hi
    rw [cellsOp, List.getElem?_eq_getElem (by omega), add_plain] at h1
    obtain ⟨cs, hc, ht⟩ := Option.bind_eq_some_iff.1 h1
    obtain ⟨c, a, b', k, rfl, _⟩ := trod_op ht
    have hblk : b < w.heap.size := World.cells?_block hc (by omega)
    obtain ⟨_, _, hcell⟩ := World.cells?_some hc
    simp only [add_plain] at hcell
    exact ⟨⟨c, a, b', k⟩, ⟨hcell 0 (by omega), hcell 1 (by omega), hcell 2 (by omega), hcell 3 (by omega)⟩, hblk⟩
   obtain ⟨_, _, hblk⟩ := each 0 (by omega)
   obtain ⟨l, rfl, hi⟩ := os_list (w := w) (b := b) (off := off) len (fun i hi => by
    obtain ⟨e, he, _⟩ := each i hi
    exact ⟨e, he⟩)
   exact ⟨_, l, rfl, _, _, rfl, hl, hm, .inr ⟨b, off, rfl, hblk, hi⟩⟩
theorem hs_list {w : World} {b off : Nat} : ∀ n, (∀ i, i < n → ∃ u l, w.cell? ⟨b, off + i, none⟩ = some u ∧ IsO w u l) → ∃ l : List (List O), l.length = n ∧ ∀ i, i < n → ∃ u, w.cell? ⟨b, off + i, none⟩ = some u ∧ IsO w u (hAt l i)
 | 0, _ => ⟨[], rfl, fun i hi => by omega⟩
 | n + 1, h => by
  obtain ⟨l, hl, hi⟩ := hs_list n (fun i hi => h i (by omega))
  obtain ⟨u, r, hu, hr⟩ := h n (by omega)
  refine ⟨l ++ [r], by simp [hl], fun i hi' => ?_⟩
  by_cases hin : i < n
  ·have : hAt (l ++ [r]) i = hAt l i := by unfold hAt; simp [List.getElem?_append_left (by omega : i < l.length)]
   rw [this]; exact hi i hin
  ·have : hAt (l ++ [r]) i = r := by unfold hAt; simp [show i = l.length by omega]
   rw [this, show i = n by omega]; exact ⟨u, hu, hr⟩
set_option maxRecDepth 100000 in
theorem trod_hs {H : Type} {enc : TypeId × Value → H} {w : World} {spare : Nat → Bool} {held : Bool} {fuel : Nat} {cs : List Value} {x : DataW H × List MemPlace}
  (hf : DataW.trod enc Tryz.prog w 0 spare held fuel 23 cs = some x) : ∃ v l, cs = [v] ∧ IsH w v l := by
 rcases DataW.trod_slice Tryz.underlying23 hf with ⟨rfl, _⟩ | ⟨a, len, cap, elems, rest, n, _, rfl, _, hb, hl, hm, hlen, hel, _, _⟩
 ·exact ⟨_, [], rfl, none, 0, rfl, Nat.le_refl _, by unfold maxLen; omega, .inl rfl⟩
 ·by_cases h0 : len = 0
  ·subst h0
   exact ⟨_, [], rfl, _, _, rfl, hl, hm, .inl rfl⟩
  ·obtain ⟨b, off, spot⟩ := a
   have hs : spot = none := by
    have h1 := hel 0 (by omega)
    rw [cellsRow, List.getElem?_eq_getElem (by omega)] at h1
    obtain ⟨cs, hc, ht⟩ := Option.bind_eq_some_iff.1 h1
    obtain ⟨v, l, rfl, _⟩ := trod_ops ht
    have c0 := (World.cells?_some hc).2.2 0 (by omega)
    simpa [Addr.add] using World.cell?_spot c0
   subst hs
   have each : ∀ i, i < len → ∃ u l, (w.cell? ⟨b, off + i, none⟩ = some u ∧ IsO w u l) ∧ b < w.heap.size := by
    intro i hi
    have h1 := hel i hi
    rw [cellsRow, List.getElem?_eq_getElem (by omega), add_plain] at h1
    obtain ⟨cs, hc, ht⟩ := Option.bind_eq_some_iff.1 h1
    obtain ⟨v, l, rfl, hv⟩ := trod_ops ht
    have hblk : b < w.heap.size := World.cells?_block hc (by omega)
    obtain ⟨_, _, hcell⟩ := World.cells?_some hc
    have h2 := hcell 0 (by omega)
    simp only [add_plain] at h2
    exact ⟨v, l, ⟨by simpa using h2, hv⟩, hblk⟩
   obtain ⟨_, _, _, hblk⟩ := each 0 (by omega)
   obtain ⟨l, rfl, hi⟩ := hs_list (w := w) (b := b) (off := off) len (fun i hi => by
    obtain ⟨u, l, he, _⟩ := each i hi
    exact ⟨u, l, he⟩)
   exact ⟨_, l, rfl, _, _, rfl, hl, hm, .inr ⟨b, off, rfl, hblk, hi⟩⟩
set_option maxRecDepth 100000 in
theorem open_model {H : Type} {enc : TypeId × Value → H} {w : World} {b0 : Nat} {spare : Nat → Bool} {held : Bool} {r : Reach} {v : Value} {d : DataW H} {p : List MemPlace}
  (hv : Value.okWide Tryz.prog w r b0 26 v) (h : DataW.Trod enc Tryz.prog w 0 spare held 26 v d p) : ∃ m : Md, IsM w v m := by
 obtain ⟨cs, rfl, hsz⟩ := okWide_struct Tryz.underlying26 hv
 obtain ⟨fuel, hf⟩ := h
 obtain ⟨xs, n, _, _, hl, hlen, hf⟩ := DataW.trod_struct Tryz.underlying26 hf
 rw [cellsM] at hl
 obtain ⟨c0, c1, c2, c3, c4, c5, hcs⟩ := list6 hl
 have hx : xs.length = 6 := by simpa using hlen
 obtain ⟨y0, y1, y2, y3, y4, y5, rfl⟩ := list6 hx
 rw [hcs] at hf
 have h0 := hf 0 _ rfl
 have h1 := hf 1 _ rfl
 have h2 := hf 2 _ rfl
 have h3 := hf 3 _ rfl
 have h4 := hf 4 _ rfl
 have h5 := hf 5 _ rfl
 obtain ⟨a0, e0, _, _⟩ := DataW.trod_int Tryz.underlying3 h0
 obtain ⟨a1, e1, _, _⟩ := DataW.trod_int Tryz.underlying3 h1
 obtain ⟨v2, l2, e2, g2⟩ := trod_ints h2
 obtain ⟨v3, l3, e3, g3⟩ := trod_hs h3
 obtain ⟨v4, l4, e4, g4⟩ := trod_evs h4
 obtain ⟨a5, e5, _, _⟩ := DataW.trod_int Tryz.underlying3 h5
 simp [cells3, cellsInts, cellsRows, cellsEvs] at e0 e1 e2 e3 e4 e5
 subst e0 e1 e2 e3 e4 e5
 refine ⟨⟨a0, a1, l2, l3, l4, a5⟩, c2, c3, c4, ?_, g2, g3, g4⟩
 rw [show cs = #[.int .i64 a0, .int .i64 a1, c2, c3, c4, .int .i64 a5] from by
  apply Array.toList_inj.1
  simpa [Value.cells] using hcs]
end Go.Proofs.YtnccenbkpocjgaaGreat

/- The walk of FnExactPartNew. -/
namespace Go.Proofs.YtnccenbkpocjgaaGreat
open Go.RowKit
theorem HeldPart.below {F : Nat → Prop} {w w' : World} {x : Value} {p : Pa} {z : Int} (h : HeldPart F w x p z) (hb : Below w.heap.size w w') : HeldPart F w' x p z := by
 obtain ⟨A1, A4, A5, A6, u1, u4, u5, u6, e, h1, h4, h5, h6, d1, d4, d5, d6⟩ := h
 exact ⟨A1, A4, A5, A6, u1, u4, u5, u6, e, h1.under hb, h4.under hb, h5.under hb, h6.under hb, d1, d4, d5, d6⟩
end Go.Proofs.YtnccenbkpocjgaaGreat
namespace Go.Proofs.YtnccenbkpocjgaaGreat.LawExactPartNew
open Go.ChangeShapes Go.WideShapes Go.ChangeAt Go.RowKit Go.Proofs.YtnccenbkpocjgaaGreat
theorem newA_small (m : Md) (lp : Int) : (newA m lp).wt ≤ 1048576 := by
 unfold newA
 split
 next h =>
  unfold newOk at h
  simp only [Bool.and_eq_true] at h
  exact Nat.le_trans (newP_wt (ok_six h.1)) (by omega)
 ·decide
set_option maxRecDepth 100000 in
set_option maxHeartbeats 16000000 in
theorem walk (x : Value) (m : Md) (lp : Int) (w : World) (hx : IsM w x m) (_hlp : wfI lp) :
  Calls Tryz.prog 3 #[x, .int .i64 lp] w fun e w' => e = .returned (.bool true) ∧ Below w.heap.size w w' := by
 have HX : Hid (IsM w x m) := hx
 obtain ⟨vi0, vh0, vs0, rfl, _⟩ := hx
 obtain ⟨W0, hW0⟩ : ∃ W0, w.alloc (.cells #[.int .i64 m.n, .int .i64 m.s, vi0, vh0, vs0, .int .i64 m.z] 26) = W0 := ⟨_, rfl⟩
 have HB_W0 : Hid (Below w.heap.size w W0) := by rw [← hW0]; exact (Below.refl _ w).alloc (Nat.le_refl _) _
 have HP_W0 : Hid (Bk W0 w.heap.size 26 #[.int .i64 m.n, .int .i64 m.s, vi0, vh0, vs0, .int .i64 m.z]) := by rw [← hW0]; exact Bk.new w _ _
 have p0 := HP_W0.out.cell (i := 0) rfl
 have p1 := HP_W0.out.cell (i := 1) rfl
 have p2 := HP_W0.out.cell (i := 2) rfl
 have p3 := HP_W0.out.cell (i := 3) rfl
 have p4 := HP_W0.out.cell (i := 4) rfl
 have p5 := HP_W0.out.cell (i := 5) rfl
 have hP0 : w.heap.size < W0.heap.size := HP_W0.out.lt
 clear _hlp
 go_enter Tryz.func3, Tryz.ntmps3
 go_wp2_with fail
 clear hW0
 clear p0 p1 p2 p3 p4 p5
 refine (szModel_any _ m _ (HX.out.below HB_W0.out)).mono ?_
 rintro e w1 ⟨⟨r, rfl, hr⟩, hb⟩
 have z_w1 : W0.heap.size ≤ w1.heap.size := hb.size
 have HB_w1 : Hid (Below w.heap.size w w1) := HB_W0.out.trans (hb.mono HB_W0.out.size)
 have HP_w1 : Hid (Bk w1 w.heap.size 26 #[.int .i64 m.n, .int .i64 m.s, vi0, vh0, vs0, .int .i64 m.z]) := HP_W0.out.below hb
 clear HB_W0 HP_W0
 clear hb
 rcases hr with rfl | ⟨hr0, hsm⟩
 case inl =>
  go_wp2
  go_ret
  exact ⟨rfl, HB_w1.out⟩
 have hr1 : ¬ (r < 0) := by omega
 have HSM : Hid (SmallM m) := hsm
 clear hsm hr0
 have HC : Hid (∃ A b, A.wt ≤ 1048576 ∧ (∀ (v0 : Value) (W : World), IsM W v0 m → Calls Tryz.prog 8 #[v0, .int .i64 lp] W fun e w' => ∃ y, e = .returned (.tuple #[y, .bool b]) ∧ Below W.heap.size W w' ∧ PartF (fun k => W.heap.size ≤ k ∧ k < w'.heap.size) w' y A) ∧ (∀ (v0 : Value) (W : World), IsM W v0 m → Calls Tryz.prog 10 #[v0, .int .i64 lp] W fun e w' => ∃ y, e = .returned (.tuple #[y, .bool b]) ∧ Below W.heap.size W w' ∧ PartF (fun k => W.heap.size ≤ k ∧ k < w'.heap.size) w' y A)) := ⟨newA m lp, newOk m lp, newA_small m lp, fun v0 W h0 => sPartNew v0 m lp W HSM.out h0, fun v0 W h0 => iPartNew v0 m lp W HSM.out h0⟩
 obtain ⟨A, b, hq, hsp, him⟩ := HC.out
 have HSP : Hid (∀ (v0 : Value) (W : World), IsM W v0 m → Calls Tryz.prog 8 #[v0, .int .i64 lp] W fun e w' => ∃ y, e = .returned (.tuple #[y, .bool b]) ∧ Below W.heap.size W w' ∧ PartF (fun k => W.heap.size ≤ k ∧ k < w'.heap.size) w' y A) := hsp
 have HIM : Hid (∀ (v0 : Value) (W : World), IsM W v0 m → Calls Tryz.prog 10 #[v0, .int .i64 lp] W fun e w' => ∃ y, e = .returned (.tuple #[y, .bool b]) ∧ Below W.heap.size W w' ∧ PartF (fun k => W.heap.size ≤ k ∧ k < w'.heap.size) w' y A) := him
 have HQ : Hid (A.wt ≤ 1048576) := hq
 clear HC hsp him hq
 have p0 := HP_w1.out.cell (i := 0) rfl
 have p1 := HP_w1.out.cell (i := 1) rfl
 have p2 := HP_w1.out.cell (i := 2) rfl
 have p3 := HP_w1.out.cell (i := 3) rfl
 have p4 := HP_w1.out.cell (i := 4) rfl
 have p5 := HP_w1.out.cell (i := 5) rfl
 go_wp2_with fail
 clear p0 p1 p2 p3 p4 p5
 refine (toModel_any _ m _ HSM.out (HX.out.below HB_w1.out)).mono ?_
 rintro e w2 ⟨y0, rfl, hb, hr⟩
 have z_w2 : w1.heap.size ≤ w2.heap.size := hb.size
 have HB_w2 : Hid (Below w.heap.size w w2) := HB_w1.out.trans (hb.mono HB_w1.out.size)
 have HP_w2 : Hid (Bk w2 w.heap.size 26 #[.int .i64 m.n, .int .i64 m.s, vi0, vh0, vs0, .int .i64 m.z]) := HP_w1.out.below hb
 clear HB_w1 HP_w1
 have HT_w2 : Hid (MdF (fun k => w1.heap.size ≤ k ∧ k < w2.heap.size) w2 y0 m) := hr
 clear hb hr
 go_wp2_with fail
 refine (HSP.out _ _ HT_w2.out.isM).mono ?_
 rintro e w3 ⟨yo, rfl, hb, hr⟩
 obtain ⟨fao, fbo, fco, fdo, feo, ffo, fgo, fho, rfl⟩ := PartF.form hr
 have z_w3 : w2.heap.size ≤ w3.heap.size := hb.size
 have HB_w3 : Hid (Below w.heap.size w w3) := HB_w2.out.trans (hb.mono HB_w2.out.size)
 have HP_w3 : Hid (Bk w3 w.heap.size 26 #[.int .i64 m.n, .int .i64 m.s, vi0, vh0, vs0, .int .i64 m.z]) := HP_w2.out.below hb
 clear HB_w2 HP_w2 HT_w2
 have HS_w3 : Hid (PartF (fun k => w2.heap.size ≤ k ∧ k < w3.heap.size) w3 (.agg #[.int .i64 A.n, .slice fao A.st.r.length fbo, .int .i64 A.st.q, .int .i64 A.st.d, .slice fco A.p.length fdo, .slice feo A.t.length ffo, .slice fgo A.a.length fho]) A) := hr
 clear hb hr
 obtain ⟨Vw3, hVw3⟩ : ∃ V, w3.alloc (.cells #[.int .i64 A.n, .slice fao A.st.r.length fbo, .int .i64 A.st.q, .int .i64 A.st.d, .slice fco A.p.length fdo, .slice feo A.t.length ffo, .slice fgo A.a.length fho] 33) = V := ⟨_, rfl⟩
 have BHSb : Bk Vw3 w3.heap.size 33 #[.int .i64 A.n, .slice fao A.st.r.length fbo, .int .i64 A.st.q, .int .i64 A.st.d, .slice fco A.p.length fdo, .slice feo A.t.length ffo, .slice fgo A.a.length fho] := by rw [← hVw3]; exact Bk.new _ _ _
 have hb : Below w3.heap.size w3 Vw3 := by rw [← hVw3]; exact (Below.refl _ _).alloc (Nat.le_refl _) _
 have y_Vw3 : w3.heap.size < Vw3.heap.size := BHSb.lt
 have z_Vw3 : w3.heap.size ≤ Vw3.heap.size := hb.size
 have HB_Vw3 : Hid (Below w.heap.size w Vw3) := HB_w3.out.trans (hb.mono HB_w3.out.size)
 have HP_Vw3 : Hid (Bk Vw3 w.heap.size 26 #[.int .i64 m.n, .int .i64 m.s, vi0, vh0, vs0, .int .i64 m.z]) := HP_w3.out.below hb
 have HS_Vw3 : Hid (PartF (fun k => w2.heap.size ≤ k ∧ k < w3.heap.size) Vw3 (.agg #[.int .i64 A.n, .slice fao A.st.r.length fbo, .int .i64 A.st.q, .int .i64 A.st.d, .slice fco A.p.length fdo, .slice feo A.t.length ffo, .slice fgo A.a.length fho]) A) := HS_w3.out.below hb
 clear HB_w3 HP_w3 HS_w3
 clear hb
 have HSb_Vw3 : Hid (Bk Vw3 w3.heap.size 33 #[.int .i64 A.n, .slice fao A.st.r.length fbo, .int .i64 A.st.q, .int .i64 A.st.d, .slice fco A.p.length fdo, .slice feo A.t.length ffo, .slice fgo A.a.length fho]) := BHSb
 clear BHSb
 have g0 := HSb_Vw3.out.cell (i := 0) rfl
 have g1 := HSb_Vw3.out.cell (i := 1) rfl
 have g2 := HSb_Vw3.out.cell (i := 2) rfl
 have g3 := HSb_Vw3.out.cell (i := 3) rfl
 have g4 := HSb_Vw3.out.cell (i := 4) rfl
 have g5 := HSb_Vw3.out.cell (i := 5) rfl
 have g6 := HSb_Vw3.out.cell (i := 6) rfl
 clear HSP
 have p0 := HP_Vw3.out.cell (i := 0) rfl
 have p1 := HP_Vw3.out.cell (i := 1) rfl
 have p2 := HP_Vw3.out.cell (i := 2) rfl
 have p3 := HP_Vw3.out.cell (i := 3) rfl
 have p4 := HP_Vw3.out.cell (i := 4) rfl
 have p5 := HP_Vw3.out.cell (i := 5) rfl
 go_wp2_with fail
 clear hVw3
 clear p0 p1 p2 p3 p4 p5
 clear g0 g1 g2 g3 g4 g5 g6
 refine (toModel_any _ m _ HSM.out (HX.out.below HB_Vw3.out)).mono ?_
 rintro e w4 ⟨y1, rfl, hb, hr⟩
 have z_w4 : Vw3.heap.size ≤ w4.heap.size := hb.size
 have HB_w4 : Hid (Below w.heap.size w w4) := HB_Vw3.out.trans (hb.mono HB_Vw3.out.size)
 have HP_w4 : Hid (Bk w4 w.heap.size 26 #[.int .i64 m.n, .int .i64 m.s, vi0, vh0, vs0, .int .i64 m.z]) := HP_Vw3.out.below hb
 have HS_w4 : Hid (PartF (fun k => w2.heap.size ≤ k ∧ k < w3.heap.size) w4 (.agg #[.int .i64 A.n, .slice fao A.st.r.length fbo, .int .i64 A.st.q, .int .i64 A.st.d, .slice fco A.p.length fdo, .slice feo A.t.length ffo, .slice fgo A.a.length fho]) A) := HS_Vw3.out.below hb
 have HSb_w4 : Hid (Bk w4 w3.heap.size 33 #[.int .i64 A.n, .slice fao A.st.r.length fbo, .int .i64 A.st.q, .int .i64 A.st.d, .slice fco A.p.length fdo, .slice feo A.t.length ffo, .slice fgo A.a.length fho]) := HSb_Vw3.out.below hb
 clear HB_Vw3 HP_Vw3 HS_Vw3 HSb_Vw3
 have HR_w4 : Hid (MdF (fun k => Vw3.heap.size ≤ k ∧ k < w4.heap.size) w4 y1 m) := hr
 clear hb hr
 obtain ⟨aui, cui, auh, cuh, aue, cue, rfl⟩ := HR_w4.out.form
 obtain ⟨Vw4, hVw4⟩ : ∃ V, w4.alloc (.cells #[.int .i64 m.n, .int .i64 m.s, .slice aui m.i.length cui, .slice auh m.h.length cuh, .slice aue m.e.length cue, .int .i64 m.z] 38) = V := ⟨_, rfl⟩
 have BHX0 : Bk Vw4 w4.heap.size 38 #[.int .i64 m.n, .int .i64 m.s, .slice aui m.i.length cui, .slice auh m.h.length cuh, .slice aue m.e.length cue, .int .i64 m.z] := by rw [← hVw4]; exact Bk.new _ _ _
 have hb : Below w4.heap.size w4 Vw4 := by rw [← hVw4]; exact (Below.refl _ _).alloc (Nat.le_refl _) _
 have y_Vw4 : w4.heap.size < Vw4.heap.size := BHX0.lt
 have z_Vw4 : w4.heap.size ≤ Vw4.heap.size := hb.size
 have HB_Vw4 : Hid (Below w.heap.size w Vw4) := HB_w4.out.trans (hb.mono HB_w4.out.size)
 have HP_Vw4 : Hid (Bk Vw4 w.heap.size 26 #[.int .i64 m.n, .int .i64 m.s, vi0, vh0, vs0, .int .i64 m.z]) := HP_w4.out.below hb
 have HS_Vw4 : Hid (PartF (fun k => w2.heap.size ≤ k ∧ k < w3.heap.size) Vw4 (.agg #[.int .i64 A.n, .slice fao A.st.r.length fbo, .int .i64 A.st.q, .int .i64 A.st.d, .slice fco A.p.length fdo, .slice feo A.t.length ffo, .slice fgo A.a.length fho]) A) := HS_w4.out.below hb
 have HSb_Vw4 : Hid (Bk Vw4 w3.heap.size 33 #[.int .i64 A.n, .slice fao A.st.r.length fbo, .int .i64 A.st.q, .int .i64 A.st.d, .slice fco A.p.length fdo, .slice feo A.t.length ffo, .slice fgo A.a.length fho]) := HSb_w4.out.below hb
 have HR_Vw4 : Hid (MdF (fun k => Vw3.heap.size ≤ k ∧ k < w4.heap.size) Vw4 (.agg #[.int .i64 m.n, .int .i64 m.s, .slice aui m.i.length cui, .slice auh m.h.length cuh, .slice aue m.e.length cue, .int .i64 m.z]) m) := HR_w4.out.below hb
 clear HB_w4 HP_w4 HS_w4 HSb_w4 HR_w4
 clear hb
 have HX0_Vw4 : Hid (Bk Vw4 w4.heap.size 38 #[.int .i64 m.n, .int .i64 m.s, .slice aui m.i.length cui, .slice auh m.h.length cuh, .slice aue m.e.length cue, .int .i64 m.z]) := BHX0
 clear BHX0
 have r0 := HX0_Vw4.out.cell (i := 0) rfl
 have r1 := HX0_Vw4.out.cell (i := 1) rfl
 have r2 := HX0_Vw4.out.cell (i := 2) rfl
 have r3 := HX0_Vw4.out.cell (i := 3) rfl
 have r4 := HX0_Vw4.out.cell (i := 4) rfl
 have r5 := HX0_Vw4.out.cell (i := 5) rfl
 go_wp2_with fail
 clear hVw4
 clear r0 r1 r2 r3 r4 r5
 refine (HIM.out _ _ HR_Vw4.out.isM).mono ?_
 rintro e w5 ⟨yg, rfl, hb, hr⟩
 obtain ⟨fag, fbg, fcg, fdg, feg, ffg, fgg, fhg, rfl⟩ := PartF.form hr
 have z_w5 : Vw4.heap.size ≤ w5.heap.size := hb.size
 have HB_w5 : Hid (Below w.heap.size w w5) := HB_Vw4.out.trans (hb.mono HB_Vw4.out.size)
 have HP_w5 : Hid (Bk w5 w.heap.size 26 #[.int .i64 m.n, .int .i64 m.s, vi0, vh0, vs0, .int .i64 m.z]) := HP_Vw4.out.below hb
 have HS_w5 : Hid (PartF (fun k => w2.heap.size ≤ k ∧ k < w3.heap.size) w5 (.agg #[.int .i64 A.n, .slice fao A.st.r.length fbo, .int .i64 A.st.q, .int .i64 A.st.d, .slice fco A.p.length fdo, .slice feo A.t.length ffo, .slice fgo A.a.length fho]) A) := HS_Vw4.out.below hb
 have HSb_w5 : Hid (Bk w5 w3.heap.size 33 #[.int .i64 A.n, .slice fao A.st.r.length fbo, .int .i64 A.st.q, .int .i64 A.st.d, .slice fco A.p.length fdo, .slice feo A.t.length ffo, .slice fgo A.a.length fho]) := HSb_Vw4.out.below hb
 have HR_w5 : Hid (MdF (fun k => Vw3.heap.size ≤ k ∧ k < w4.heap.size) w5 (.agg #[.int .i64 m.n, .int .i64 m.s, .slice aui m.i.length cui, .slice auh m.h.length cuh, .slice aue m.e.length cue, .int .i64 m.z]) m) := HR_Vw4.out.below hb
 have HX0_w5 : Hid (Bk w5 w4.heap.size 38 #[.int .i64 m.n, .int .i64 m.s, .slice aui m.i.length cui, .slice auh m.h.length cuh, .slice aue m.e.length cue, .int .i64 m.z]) := HX0_Vw4.out.below hb
 clear HB_Vw4 HP_Vw4 HS_Vw4 HSb_Vw4 HR_Vw4 HX0_Vw4
 have HG_w5 : Hid (PartF (fun k => Vw4.heap.size ≤ k ∧ k < w5.heap.size) w5 (.agg #[.int .i64 A.n, .slice fag A.st.r.length fbg, .int .i64 A.st.q, .int .i64 A.st.d, .slice fcg A.p.length fdg, .slice feg A.t.length ffg, .slice fgg A.a.length fhg]) A) := hr
 clear hb hr
 obtain ⟨Vw5, hVw5⟩ : ∃ V, w5.alloc (.cells #[.int .i64 A.n, .slice fag A.st.r.length fbg, .int .i64 A.st.q, .int .i64 A.st.d, .slice fcg A.p.length fdg, .slice feg A.t.length ffg, .slice fgg A.a.length fhg] 33) = V := ⟨_, rfl⟩
 have BHGb : Bk Vw5 w5.heap.size 33 #[.int .i64 A.n, .slice fag A.st.r.length fbg, .int .i64 A.st.q, .int .i64 A.st.d, .slice fcg A.p.length fdg, .slice feg A.t.length ffg, .slice fgg A.a.length fhg] := by rw [← hVw5]; exact Bk.new _ _ _
 have hb : Below w5.heap.size w5 Vw5 := by rw [← hVw5]; exact (Below.refl _ _).alloc (Nat.le_refl _) _
 have y_Vw5 : w5.heap.size < Vw5.heap.size := BHGb.lt
 have z_Vw5 : w5.heap.size ≤ Vw5.heap.size := hb.size
 have HB_Vw5 : Hid (Below w.heap.size w Vw5) := HB_w5.out.trans (hb.mono HB_w5.out.size)
 have HP_Vw5 : Hid (Bk Vw5 w.heap.size 26 #[.int .i64 m.n, .int .i64 m.s, vi0, vh0, vs0, .int .i64 m.z]) := HP_w5.out.below hb
 have HS_Vw5 : Hid (PartF (fun k => w2.heap.size ≤ k ∧ k < w3.heap.size) Vw5 (.agg #[.int .i64 A.n, .slice fao A.st.r.length fbo, .int .i64 A.st.q, .int .i64 A.st.d, .slice fco A.p.length fdo, .slice feo A.t.length ffo, .slice fgo A.a.length fho]) A) := HS_w5.out.below hb
 have HSb_Vw5 : Hid (Bk Vw5 w3.heap.size 33 #[.int .i64 A.n, .slice fao A.st.r.length fbo, .int .i64 A.st.q, .int .i64 A.st.d, .slice fco A.p.length fdo, .slice feo A.t.length ffo, .slice fgo A.a.length fho]) := HSb_w5.out.below hb
 have HR_Vw5 : Hid (MdF (fun k => Vw3.heap.size ≤ k ∧ k < w4.heap.size) Vw5 (.agg #[.int .i64 m.n, .int .i64 m.s, .slice aui m.i.length cui, .slice auh m.h.length cuh, .slice aue m.e.length cue, .int .i64 m.z]) m) := HR_w5.out.below hb
 have HX0_Vw5 : Hid (Bk Vw5 w4.heap.size 38 #[.int .i64 m.n, .int .i64 m.s, .slice aui m.i.length cui, .slice auh m.h.length cuh, .slice aue m.e.length cue, .int .i64 m.z]) := HX0_w5.out.below hb
 have HG_Vw5 : Hid (PartF (fun k => Vw4.heap.size ≤ k ∧ k < w5.heap.size) Vw5 (.agg #[.int .i64 A.n, .slice fag A.st.r.length fbg, .int .i64 A.st.q, .int .i64 A.st.d, .slice fcg A.p.length fdg, .slice feg A.t.length ffg, .slice fgg A.a.length fhg]) A) := HG_w5.out.below hb
 clear HB_w5 HP_w5 HS_w5 HSb_w5 HR_w5 HX0_w5 HG_w5
 clear hb
 have HGb_Vw5 : Hid (Bk Vw5 w5.heap.size 33 #[.int .i64 A.n, .slice fag A.st.r.length fbg, .int .i64 A.st.q, .int .i64 A.st.d, .slice fcg A.p.length fdg, .slice feg A.t.length ffg, .slice fgg A.a.length fhg]) := BHGb
 clear BHGb
 have g0 := HGb_Vw5.out.cell (i := 0) rfl
 have g1 := HGb_Vw5.out.cell (i := 1) rfl
 have g2 := HGb_Vw5.out.cell (i := 2) rfl
 have g3 := HGb_Vw5.out.cell (i := 3) rfl
 have g4 := HGb_Vw5.out.cell (i := 4) rfl
 have g5 := HGb_Vw5.out.cell (i := 5) rfl
 have g6 := HGb_Vw5.out.cell (i := 6) rfl
 have t0 := HSb_Vw5.out.cell (i := 0) rfl
 have t1 := HSb_Vw5.out.cell (i := 1) rfl
 have t2 := HSb_Vw5.out.cell (i := 2) rfl
 have t3 := HSb_Vw5.out.cell (i := 3) rfl
 have t4 := HSb_Vw5.out.cell (i := 4) rfl
 have t5 := HSb_Vw5.out.cell (i := 5) rfl
 have t6 := HSb_Vw5.out.cell (i := 6) rfl
 go_wp2_with fail
 clear hVw5
 clear g0 g1 g2 g3 g4 g5 g6
 clear t0 t1 t2 t3 t4 t5 t6
 refine (eqPart_same _ _ A _ HQ.out HG_Vw5.out.is HS_Vw5.out.is).mono ?_
 rintro e w6 ⟨rfl, hb⟩
 have z_w6 : Vw5.heap.size ≤ w6.heap.size := hb.size
 have HB_w6 : Hid (Below w.heap.size w w6) := HB_Vw5.out.trans (hb.mono HB_Vw5.out.size)
 have HP_w6 : Hid (Bk w6 w.heap.size 26 #[.int .i64 m.n, .int .i64 m.s, vi0, vh0, vs0, .int .i64 m.z]) := HP_Vw5.out.below hb
 have HS_w6 : Hid (PartF (fun k => w2.heap.size ≤ k ∧ k < w3.heap.size) w6 (.agg #[.int .i64 A.n, .slice fao A.st.r.length fbo, .int .i64 A.st.q, .int .i64 A.st.d, .slice fco A.p.length fdo, .slice feo A.t.length ffo, .slice fgo A.a.length fho]) A) := HS_Vw5.out.below hb
 have HSb_w6 : Hid (Bk w6 w3.heap.size 33 #[.int .i64 A.n, .slice fao A.st.r.length fbo, .int .i64 A.st.q, .int .i64 A.st.d, .slice fco A.p.length fdo, .slice feo A.t.length ffo, .slice fgo A.a.length fho]) := HSb_Vw5.out.below hb
 have HR_w6 : Hid (MdF (fun k => Vw3.heap.size ≤ k ∧ k < w4.heap.size) w6 (.agg #[.int .i64 m.n, .int .i64 m.s, .slice aui m.i.length cui, .slice auh m.h.length cuh, .slice aue m.e.length cue, .int .i64 m.z]) m) := HR_Vw5.out.below hb
 have HX0_w6 : Hid (Bk w6 w4.heap.size 38 #[.int .i64 m.n, .int .i64 m.s, .slice aui m.i.length cui, .slice auh m.h.length cuh, .slice aue m.e.length cue, .int .i64 m.z]) := HX0_Vw5.out.below hb
 have HG_w6 : Hid (PartF (fun k => Vw4.heap.size ≤ k ∧ k < w5.heap.size) w6 (.agg #[.int .i64 A.n, .slice fag A.st.r.length fbg, .int .i64 A.st.q, .int .i64 A.st.d, .slice fcg A.p.length fdg, .slice feg A.t.length ffg, .slice fgg A.a.length fhg]) A) := HG_Vw5.out.below hb
 have HGb_w6 : Hid (Bk w6 w5.heap.size 33 #[.int .i64 A.n, .slice fag A.st.r.length fbg, .int .i64 A.st.q, .int .i64 A.st.d, .slice fcg A.p.length fdg, .slice feg A.t.length ffg, .slice fgg A.a.length fhg]) := HGb_Vw5.out.below hb
 clear HB_Vw5 HP_Vw5 HS_Vw5 HSb_Vw5 HR_Vw5 HX0_Vw5 HG_Vw5 HGb_Vw5
 clear hb
 have p0 := HP_w6.out.cell (i := 0) rfl
 have p1 := HP_w6.out.cell (i := 1) rfl
 have p2 := HP_w6.out.cell (i := 2) rfl
 have p3 := HP_w6.out.cell (i := 3) rfl
 have p4 := HP_w6.out.cell (i := 4) rfl
 have p5 := HP_w6.out.cell (i := 5) rfl
 have r0 := HX0_w6.out.cell (i := 0) rfl
 have r1 := HX0_w6.out.cell (i := 1) rfl
 have r2 := HX0_w6.out.cell (i := 2) rfl
 have r3 := HX0_w6.out.cell (i := 3) rfl
 have r4 := HX0_w6.out.cell (i := 4) rfl
 have r5 := HX0_w6.out.cell (i := 5) rfl
 go_wp2_with fail
 have hzz : w.heap.size < w6.heap.size := by omega
 have hzy : w4.heap.size < w6.heap.size := by omega
 go_region_held3 (fun W => W.cell? ⟨w.heap.size, 0, none⟩ = some (.int .i64 m.n) ∧ W.cell? ⟨w.heap.size, 1, none⟩ = some (.int .i64 m.s) ∧ W.cell? ⟨w.heap.size, 2, none⟩ = some vi0 ∧ W.cell? ⟨w.heap.size, 3, none⟩ = some vh0 ∧ W.cell? ⟨w.heap.size, 4, none⟩ = some vs0 ∧ W.cell? ⟨w.heap.size, 5, none⟩ = some (.int .i64 m.z) ∧ W.cell? ⟨w4.heap.size, 0, none⟩ = some (.int .i64 m.n) ∧ W.cell? ⟨w4.heap.size, 1, none⟩ = some (.int .i64 m.s) ∧ W.cell? ⟨w4.heap.size, 2, none⟩ = some (.slice aui m.i.length cui) ∧ W.cell? ⟨w4.heap.size, 3, none⟩ = some (.slice auh m.h.length cuh) ∧ W.cell? ⟨w4.heap.size, 4, none⟩ = some (.slice aue m.e.length cue) ∧ W.cell? ⟨w4.heap.size, 5, none⟩ = some (.int .i64 m.z)) ((repeat' apply And.intro) <;> first | (go_keep; done) | (rw [hcA _ _ (by first | omega | (simp; omega))]; simp [*]; done))
  (first | (go_at_call 9; refine (toModel_any _ m _ HSM.out (HX.out.below HB_w6.out.drew)).mono ?_; rintro e w7 ⟨y2, rfl, hbw7, hr2⟩; obtain ⟨hcA, hfA⟩ := bcell hbw7; have hzw7 : w6.heap.size ≤ w7.heap.size := hbw7.size) | (go_at_call 12; refine (eqModel_same _ _ m _ HSM.out (HR_w6.out.below ((Below.refl _ w6).drew.trans hbw7)).isM hr2.isM).mono ?_; rintro e w8 ⟨rfl, hbw8⟩; obtain ⟨hcA, hfA⟩ := bcell hbw8; have hzw8 : w7.heap.size ≤ w8.heap.size := hbw8.size))
 clear hcA hfA
 have hbc : Below w6.heap.size w6 w8 := ((Below.refl w6.heap.size w6).drew.trans (hbw7.mono (Nat.le_refl _))).trans (hbw8.mono (by omega))
 clear p0 p1 p2 p3 p4 p5
 clear r0 r1 r2 r3 r4 r5
 have z_w8 : w6.heap.size ≤ w8.heap.size := hbc.size
 have HB_w8 : Hid (Below w.heap.size w w8) := HB_w6.out.trans (hbc.mono HB_w6.out.size)
 have HP_w8 : Hid (Bk w8 w.heap.size 26 #[.int .i64 m.n, .int .i64 m.s, vi0, vh0, vs0, .int .i64 m.z]) := HP_w6.out.below hbc
 have HS_w8 : Hid (PartF (fun k => w2.heap.size ≤ k ∧ k < w3.heap.size) w8 (.agg #[.int .i64 A.n, .slice fao A.st.r.length fbo, .int .i64 A.st.q, .int .i64 A.st.d, .slice fco A.p.length fdo, .slice feo A.t.length ffo, .slice fgo A.a.length fho]) A) := HS_w6.out.below hbc
 have HSb_w8 : Hid (Bk w8 w3.heap.size 33 #[.int .i64 A.n, .slice fao A.st.r.length fbo, .int .i64 A.st.q, .int .i64 A.st.d, .slice fco A.p.length fdo, .slice feo A.t.length ffo, .slice fgo A.a.length fho]) := HSb_w6.out.below hbc
 have HR_w8 : Hid (MdF (fun k => Vw3.heap.size ≤ k ∧ k < w4.heap.size) w8 (.agg #[.int .i64 m.n, .int .i64 m.s, .slice aui m.i.length cui, .slice auh m.h.length cuh, .slice aue m.e.length cue, .int .i64 m.z]) m) := HR_w6.out.below hbc
 have HX0_w8 : Hid (Bk w8 w4.heap.size 38 #[.int .i64 m.n, .int .i64 m.s, .slice aui m.i.length cui, .slice auh m.h.length cuh, .slice aue m.e.length cue, .int .i64 m.z]) := HX0_w6.out.below hbc
 have HG_w8 : Hid (PartF (fun k => Vw4.heap.size ≤ k ∧ k < w5.heap.size) w8 (.agg #[.int .i64 A.n, .slice fag A.st.r.length fbg, .int .i64 A.st.q, .int .i64 A.st.d, .slice fcg A.p.length fdg, .slice feg A.t.length ffg, .slice fgg A.a.length fhg]) A) := HG_w6.out.below hbc
 have HGb_w8 : Hid (Bk w8 w5.heap.size 33 #[.int .i64 A.n, .slice fag A.st.r.length fbg, .int .i64 A.st.q, .int .i64 A.st.d, .slice fcg A.p.length fdg, .slice feg A.t.length ffg, .slice fgg A.a.length fhg]) := HGb_w6.out.below hbc
 clear HB_w6 HP_w6 HS_w6 HSb_w6 HR_w6 HX0_w6 HG_w6 HGb_w6
 clear hbc hr2 hbw7 hzw7 hbw8 hzw8 hzz hzy
 have r0 := HX0_w8.out.cell (i := 0) rfl
 have r1 := HX0_w8.out.cell (i := 1) rfl
 have r2 := HX0_w8.out.cell (i := 2) rfl
 have r3 := HX0_w8.out.cell (i := 3) rfl
 have r4 := HX0_w8.out.cell (i := 4) rfl
 have r5 := HX0_w8.out.cell (i := 5) rfl
 go_wp2_with fail
 clear r0 r1 r2 r3 r4 r5
 refine (markModel_any HSM.out HR_w8.out (fun k e => by omega)).mono ?_
 rintro e w9 ⟨rfl, _, ht⟩
 have z_w9 : w8.heap.size ≤ w9.heap.size := ht.size
 have HB_w9 : Hid (Below w.heap.size w w9) := HB_w8.out.trans (ht.to_below (fun k e => by omega) (by omega))
 have HP_w9 : Hid (Bk w9 w.heap.size 26 #[.int .i64 m.n, .int .i64 m.s, vi0, vh0, vs0, .int .i64 m.z]) := HP_w8.out.turns ht (fun e => by omega)
 have HS_w9 : Hid (PartF (fun k => w2.heap.size ≤ k ∧ k < w3.heap.size) w9 (.agg #[.int .i64 A.n, .slice fao A.st.r.length fbo, .int .i64 A.st.q, .int .i64 A.st.d, .slice fco A.p.length fdo, .slice feo A.t.length ffo, .slice fgo A.a.length fho]) A) := HS_w8.out.turns ht (fun k e => by omega)
 have HSb_w9 : Hid (Bk w9 w3.heap.size 33 #[.int .i64 A.n, .slice fao A.st.r.length fbo, .int .i64 A.st.q, .int .i64 A.st.d, .slice fco A.p.length fdo, .slice feo A.t.length ffo, .slice fgo A.a.length fho]) := HSb_w8.out.turns ht (fun e => by omega)
 have HG_w9 : Hid (PartF (fun k => Vw4.heap.size ≤ k ∧ k < w5.heap.size) w9 (.agg #[.int .i64 A.n, .slice fag A.st.r.length fbg, .int .i64 A.st.q, .int .i64 A.st.d, .slice fcg A.p.length fdg, .slice feg A.t.length ffg, .slice fgg A.a.length fhg]) A) := HG_w8.out.turns ht (fun k e => by omega)
 have HGb_w9 : Hid (Bk w9 w5.heap.size 33 #[.int .i64 A.n, .slice fag A.st.r.length fbg, .int .i64 A.st.q, .int .i64 A.st.d, .slice fcg A.p.length fdg, .slice feg A.t.length ffg, .slice fgg A.a.length fhg]) := HGb_w8.out.turns ht (fun e => by omega)
 clear HB_w8 HP_w8 HS_w8 HSb_w8 HR_w8 HX0_w8 HG_w8 HGb_w8
 clear ht
 have hkn : ¬ (markNo m < 0) := by have := markNo_pos m; omega
 have g0 := HGb_w9.out.cell (i := 0) rfl
 have g1 := HGb_w9.out.cell (i := 1) rfl
 have g2 := HGb_w9.out.cell (i := 2) rfl
 have g3 := HGb_w9.out.cell (i := 3) rfl
 have g4 := HGb_w9.out.cell (i := 4) rfl
 have g5 := HGb_w9.out.cell (i := 5) rfl
 have g6 := HGb_w9.out.cell (i := 6) rfl
 have t0 := HSb_w9.out.cell (i := 0) rfl
 have t1 := HSb_w9.out.cell (i := 1) rfl
 have t2 := HSb_w9.out.cell (i := 2) rfl
 have t3 := HSb_w9.out.cell (i := 3) rfl
 have t4 := HSb_w9.out.cell (i := 4) rfl
 have t5 := HSb_w9.out.cell (i := 5) rfl
 have t6 := HSb_w9.out.cell (i := 6) rfl
 go_wp2_with fail
 clear g0 g1 g2 g3 g4 g5 g6
 clear t0 t1 t2 t3 t4 t5 t6
 refine (eqPart_same _ _ A _ HQ.out HG_w9.out.is HS_w9.out.is).mono ?_
 rintro e w10 ⟨rfl, hb⟩
 have z_w10 : w9.heap.size ≤ w10.heap.size := hb.size
 have HB_w10 : Hid (Below w.heap.size w w10) := HB_w9.out.trans (hb.mono HB_w9.out.size)
 have HP_w10 : Hid (Bk w10 w.heap.size 26 #[.int .i64 m.n, .int .i64 m.s, vi0, vh0, vs0, .int .i64 m.z]) := HP_w9.out.below hb
 have HS_w10 : Hid (PartF (fun k => w2.heap.size ≤ k ∧ k < w3.heap.size) w10 (.agg #[.int .i64 A.n, .slice fao A.st.r.length fbo, .int .i64 A.st.q, .int .i64 A.st.d, .slice fco A.p.length fdo, .slice feo A.t.length ffo, .slice fgo A.a.length fho]) A) := HS_w9.out.below hb
 have HSb_w10 : Hid (Bk w10 w3.heap.size 33 #[.int .i64 A.n, .slice fao A.st.r.length fbo, .int .i64 A.st.q, .int .i64 A.st.d, .slice fco A.p.length fdo, .slice feo A.t.length ffo, .slice fgo A.a.length fho]) := HSb_w9.out.below hb
 have HG_w10 : Hid (PartF (fun k => Vw4.heap.size ≤ k ∧ k < w5.heap.size) w10 (.agg #[.int .i64 A.n, .slice fag A.st.r.length fbg, .int .i64 A.st.q, .int .i64 A.st.d, .slice fcg A.p.length fdg, .slice feg A.t.length ffg, .slice fgg A.a.length fhg]) A) := HG_w9.out.below hb
 have HGb_w10 : Hid (Bk w10 w5.heap.size 33 #[.int .i64 A.n, .slice fag A.st.r.length fbg, .int .i64 A.st.q, .int .i64 A.st.d, .slice fcg A.p.length fdg, .slice feg A.t.length ffg, .slice fgg A.a.length fhg]) := HGb_w9.out.below hb
 clear HB_w9 HP_w9 HS_w9 HSb_w9 HG_w9 HGb_w9
 clear hb
 have g0 := HGb_w10.out.cell (i := 0) rfl
 have g1 := HGb_w10.out.cell (i := 1) rfl
 have g2 := HGb_w10.out.cell (i := 2) rfl
 have g3 := HGb_w10.out.cell (i := 3) rfl
 have g4 := HGb_w10.out.cell (i := 4) rfl
 have g5 := HGb_w10.out.cell (i := 5) rfl
 have g6 := HGb_w10.out.cell (i := 6) rfl
 go_wp2_with fail
 clear g0 g1 g2 g3 g4 g5 g6
 have hq1 : A.wt ≤ 1048577 := by have := HQ.out; omega
 have hcp := Pa.cntA_le A
 refine (markPart_any 1 hq1 (by omega) (by omega) HG_w10.out).mono ?_
 rintro e w11 ⟨rfl, hh, ht⟩
 have z_w11 : w10.heap.size ≤ w11.heap.size := ht.size
 have HB_w11 : Hid (Below w.heap.size w w11) := HB_w10.out.trans (ht.to_below (fun k e => by omega) (by omega))
 have HP_w11 : Hid (Bk w11 w.heap.size 26 #[.int .i64 m.n, .int .i64 m.s, vi0, vh0, vs0, .int .i64 m.z]) := HP_w10.out.turns ht (fun e => by omega)
 have HS_w11 : Hid (PartF (fun k => w2.heap.size ≤ k ∧ k < w3.heap.size) w11 (.agg #[.int .i64 A.n, .slice fao A.st.r.length fbo, .int .i64 A.st.q, .int .i64 A.st.d, .slice fco A.p.length fdo, .slice feo A.t.length ffo, .slice fgo A.a.length fho]) A) := HS_w10.out.turns ht (fun k e => by omega)
 have HSb_w11 : Hid (Bk w11 w3.heap.size 33 #[.int .i64 A.n, .slice fao A.st.r.length fbo, .int .i64 A.st.q, .int .i64 A.st.d, .slice fco A.p.length fdo, .slice feo A.t.length ffo, .slice fgo A.a.length fho]) := HSb_w10.out.turns ht (fun e => by omega)
 have HGb_w11 : Hid (Bk w11 w5.heap.size 33 #[.int .i64 A.n, .slice fag A.st.r.length fbg, .int .i64 A.st.q, .int .i64 A.st.d, .slice fcg A.p.length fdg, .slice feg A.t.length ffg, .slice fgg A.a.length fhg]) := HGb_w10.out.turns ht (fun e => by omega)
 clear HB_w10 HP_w10 HS_w10 HSb_w10 HG_w10 HGb_w10
 have HH_w11 : Hid (HeldPart (fun k => Vw4.heap.size ≤ k ∧ k < w5.heap.size) w11 (.agg #[.int .i64 A.n, .slice fag A.st.r.length fbg, .int .i64 A.st.q, .int .i64 A.st.d, .slice fcg A.p.length fdg, .slice feg A.t.length ffg, .slice fgg A.a.length fhg]) A 1) := hh
 clear hh ht
 have g0 := HGb_w11.out.cell (i := 0) rfl
 have g1 := HGb_w11.out.cell (i := 1) rfl
 have g2 := HGb_w11.out.cell (i := 2) rfl
 have g3 := HGb_w11.out.cell (i := 3) rfl
 have g4 := HGb_w11.out.cell (i := 4) rfl
 have g5 := HGb_w11.out.cell (i := 5) rfl
 have g6 := HGb_w11.out.cell (i := 6) rfl
 go_wp2_with fail
 clear g0 g1 g2 g3 g4 g5 g6
 have hmn : ¬ (1 + (A.cntA : Int) < 0) := by omega
 refine (heldPart_any 1 hq1 (by omega) (by omega) HH_w11.out).mono ?_
 rintro e w12 ⟨rfl, hb⟩
 have z_w12 : w11.heap.size ≤ w12.heap.size := hb.size
 have HB_w12 : Hid (Below w.heap.size w w12) := HB_w11.out.trans (hb.mono HB_w11.out.size)
 have HP_w12 : Hid (Bk w12 w.heap.size 26 #[.int .i64 m.n, .int .i64 m.s, vi0, vh0, vs0, .int .i64 m.z]) := HP_w11.out.below hb
 have HS_w12 : Hid (PartF (fun k => w2.heap.size ≤ k ∧ k < w3.heap.size) w12 (.agg #[.int .i64 A.n, .slice fao A.st.r.length fbo, .int .i64 A.st.q, .int .i64 A.st.d, .slice fco A.p.length fdo, .slice feo A.t.length ffo, .slice fgo A.a.length fho]) A) := HS_w11.out.below hb
 have HSb_w12 : Hid (Bk w12 w3.heap.size 33 #[.int .i64 A.n, .slice fao A.st.r.length fbo, .int .i64 A.st.q, .int .i64 A.st.d, .slice fco A.p.length fdo, .slice feo A.t.length ffo, .slice fgo A.a.length fho]) := HSb_w11.out.below hb
 have HGb_w12 : Hid (Bk w12 w5.heap.size 33 #[.int .i64 A.n, .slice fag A.st.r.length fbg, .int .i64 A.st.q, .int .i64 A.st.d, .slice fcg A.p.length fdg, .slice feg A.t.length ffg, .slice fgg A.a.length fhg]) := HGb_w11.out.below hb
 have HH_w12 : Hid (HeldPart (fun k => Vw4.heap.size ≤ k ∧ k < w5.heap.size) w12 (.agg #[.int .i64 A.n, .slice fag A.st.r.length fbg, .int .i64 A.st.q, .int .i64 A.st.d, .slice fcg A.p.length fdg, .slice feg A.t.length ffg, .slice fgg A.a.length fhg]) A 1) := HH_w11.out.below hb
 clear HB_w11 HP_w11 HS_w11 HSb_w11 HGb_w11 HH_w11
 clear hb
 have p0 := HP_w12.out.cell (i := 0) rfl
 have p1 := HP_w12.out.cell (i := 1) rfl
 have p2 := HP_w12.out.cell (i := 2) rfl
 have p3 := HP_w12.out.cell (i := 3) rfl
 have p4 := HP_w12.out.cell (i := 4) rfl
 have p5 := HP_w12.out.cell (i := 5) rfl
 go_wp2_with fail
 clear p0 p1 p2 p3 p4 p5
 refine (toModel_any _ m _ HSM.out (HX.out.below HB_w12.out)).mono ?_
 rintro e w13 ⟨y3, rfl, hb, hr⟩
 have z_w13 : w12.heap.size ≤ w13.heap.size := hb.size
 have HB_w13 : Hid (Below w.heap.size w w13) := HB_w12.out.trans (hb.mono HB_w12.out.size)
 have HP_w13 : Hid (Bk w13 w.heap.size 26 #[.int .i64 m.n, .int .i64 m.s, vi0, vh0, vs0, .int .i64 m.z]) := HP_w12.out.below hb
 have HS_w13 : Hid (PartF (fun k => w2.heap.size ≤ k ∧ k < w3.heap.size) w13 (.agg #[.int .i64 A.n, .slice fao A.st.r.length fbo, .int .i64 A.st.q, .int .i64 A.st.d, .slice fco A.p.length fdo, .slice feo A.t.length ffo, .slice fgo A.a.length fho]) A) := HS_w12.out.below hb
 have HSb_w13 : Hid (Bk w13 w3.heap.size 33 #[.int .i64 A.n, .slice fao A.st.r.length fbo, .int .i64 A.st.q, .int .i64 A.st.d, .slice fco A.p.length fdo, .slice feo A.t.length ffo, .slice fgo A.a.length fho]) := HSb_w12.out.below hb
 have HGb_w13 : Hid (Bk w13 w5.heap.size 33 #[.int .i64 A.n, .slice fag A.st.r.length fbg, .int .i64 A.st.q, .int .i64 A.st.d, .slice fcg A.p.length fdg, .slice feg A.t.length ffg, .slice fgg A.a.length fhg]) := HGb_w12.out.below hb
 have HH_w13 : Hid (HeldPart (fun k => Vw4.heap.size ≤ k ∧ k < w5.heap.size) w13 (.agg #[.int .i64 A.n, .slice fag A.st.r.length fbg, .int .i64 A.st.q, .int .i64 A.st.d, .slice fcg A.p.length fdg, .slice feg A.t.length ffg, .slice fgg A.a.length fhg]) A 1) := HH_w12.out.below hb
 clear HB_w12 HP_w12 HS_w12 HSb_w12 HGb_w12 HH_w12
 have HT_w13 : Hid (MdF (fun k => w12.heap.size ≤ k ∧ k < w13.heap.size) w13 y3 m) := hr
 clear hb hr
 go_wp2_with fail
 refine (HIM.out _ _ HT_w13.out.isM).mono ?_
 rintro e w14 ⟨yk, rfl, hb, hr⟩
 obtain ⟨fak, fbk, fck, fdk, fek, ffk, fgk, fhk, rfl⟩ := PartF.form hr
 have z_w14 : w13.heap.size ≤ w14.heap.size := hb.size
 have HB_w14 : Hid (Below w.heap.size w w14) := HB_w13.out.trans (hb.mono HB_w13.out.size)
 have HP_w14 : Hid (Bk w14 w.heap.size 26 #[.int .i64 m.n, .int .i64 m.s, vi0, vh0, vs0, .int .i64 m.z]) := HP_w13.out.below hb
 have HS_w14 : Hid (PartF (fun k => w2.heap.size ≤ k ∧ k < w3.heap.size) w14 (.agg #[.int .i64 A.n, .slice fao A.st.r.length fbo, .int .i64 A.st.q, .int .i64 A.st.d, .slice fco A.p.length fdo, .slice feo A.t.length ffo, .slice fgo A.a.length fho]) A) := HS_w13.out.below hb
 have HSb_w14 : Hid (Bk w14 w3.heap.size 33 #[.int .i64 A.n, .slice fao A.st.r.length fbo, .int .i64 A.st.q, .int .i64 A.st.d, .slice fco A.p.length fdo, .slice feo A.t.length ffo, .slice fgo A.a.length fho]) := HSb_w13.out.below hb
 have HGb_w14 : Hid (Bk w14 w5.heap.size 33 #[.int .i64 A.n, .slice fag A.st.r.length fbg, .int .i64 A.st.q, .int .i64 A.st.d, .slice fcg A.p.length fdg, .slice feg A.t.length ffg, .slice fgg A.a.length fhg]) := HGb_w13.out.below hb
 have HH_w14 : Hid (HeldPart (fun k => Vw4.heap.size ≤ k ∧ k < w5.heap.size) w14 (.agg #[.int .i64 A.n, .slice fag A.st.r.length fbg, .int .i64 A.st.q, .int .i64 A.st.d, .slice fcg A.p.length fdg, .slice feg A.t.length ffg, .slice fgg A.a.length fhg]) A 1) := HH_w13.out.below hb
 clear HB_w13 HP_w13 HS_w13 HSb_w13 HGb_w13 HH_w13 HT_w13
 have HK_w14 : Hid (PartF (fun k => w13.heap.size ≤ k ∧ k < w14.heap.size) w14 (.agg #[.int .i64 A.n, .slice fak A.st.r.length fbk, .int .i64 A.st.q, .int .i64 A.st.d, .slice fck A.p.length fdk, .slice fek A.t.length ffk, .slice fgk A.a.length fhk]) A) := hr
 clear hb hr
 obtain ⟨Vw14, hVw14⟩ : ∃ V, w14.alloc (.cells #[.int .i64 A.n, .slice fak A.st.r.length fbk, .int .i64 A.st.q, .int .i64 A.st.d, .slice fck A.p.length fdk, .slice fek A.t.length ffk, .slice fgk A.a.length fhk] 33) = V := ⟨_, rfl⟩
 have BHKb : Bk Vw14 w14.heap.size 33 #[.int .i64 A.n, .slice fak A.st.r.length fbk, .int .i64 A.st.q, .int .i64 A.st.d, .slice fck A.p.length fdk, .slice fek A.t.length ffk, .slice fgk A.a.length fhk] := by rw [← hVw14]; exact Bk.new _ _ _
 have hb : Below w14.heap.size w14 Vw14 := by rw [← hVw14]; exact (Below.refl _ _).alloc (Nat.le_refl _) _
 have y_Vw14 : w14.heap.size < Vw14.heap.size := BHKb.lt
 have z_Vw14 : w14.heap.size ≤ Vw14.heap.size := hb.size
 have HB_Vw14 : Hid (Below w.heap.size w Vw14) := HB_w14.out.trans (hb.mono HB_w14.out.size)
 have HP_Vw14 : Hid (Bk Vw14 w.heap.size 26 #[.int .i64 m.n, .int .i64 m.s, vi0, vh0, vs0, .int .i64 m.z]) := HP_w14.out.below hb
 have HS_Vw14 : Hid (PartF (fun k => w2.heap.size ≤ k ∧ k < w3.heap.size) Vw14 (.agg #[.int .i64 A.n, .slice fao A.st.r.length fbo, .int .i64 A.st.q, .int .i64 A.st.d, .slice fco A.p.length fdo, .slice feo A.t.length ffo, .slice fgo A.a.length fho]) A) := HS_w14.out.below hb
 have HSb_Vw14 : Hid (Bk Vw14 w3.heap.size 33 #[.int .i64 A.n, .slice fao A.st.r.length fbo, .int .i64 A.st.q, .int .i64 A.st.d, .slice fco A.p.length fdo, .slice feo A.t.length ffo, .slice fgo A.a.length fho]) := HSb_w14.out.below hb
 have HGb_Vw14 : Hid (Bk Vw14 w5.heap.size 33 #[.int .i64 A.n, .slice fag A.st.r.length fbg, .int .i64 A.st.q, .int .i64 A.st.d, .slice fcg A.p.length fdg, .slice feg A.t.length ffg, .slice fgg A.a.length fhg]) := HGb_w14.out.below hb
 have HH_Vw14 : Hid (HeldPart (fun k => Vw4.heap.size ≤ k ∧ k < w5.heap.size) Vw14 (.agg #[.int .i64 A.n, .slice fag A.st.r.length fbg, .int .i64 A.st.q, .int .i64 A.st.d, .slice fcg A.p.length fdg, .slice feg A.t.length ffg, .slice fgg A.a.length fhg]) A 1) := HH_w14.out.below hb
 have HK_Vw14 : Hid (PartF (fun k => w13.heap.size ≤ k ∧ k < w14.heap.size) Vw14 (.agg #[.int .i64 A.n, .slice fak A.st.r.length fbk, .int .i64 A.st.q, .int .i64 A.st.d, .slice fck A.p.length fdk, .slice fek A.t.length ffk, .slice fgk A.a.length fhk]) A) := HK_w14.out.below hb
 clear HB_w14 HP_w14 HS_w14 HSb_w14 HGb_w14 HH_w14 HK_w14
 clear hb
 have HKb_Vw14 : Hid (Bk Vw14 w14.heap.size 33 #[.int .i64 A.n, .slice fak A.st.r.length fbk, .int .i64 A.st.q, .int .i64 A.st.d, .slice fck A.p.length fdk, .slice fek A.t.length ffk, .slice fgk A.a.length fhk]) := BHKb
 clear BHKb
 have g0 := HKb_Vw14.out.cell (i := 0) rfl
 have g1 := HKb_Vw14.out.cell (i := 1) rfl
 have g2 := HKb_Vw14.out.cell (i := 2) rfl
 have g3 := HKb_Vw14.out.cell (i := 3) rfl
 have g4 := HKb_Vw14.out.cell (i := 4) rfl
 have g5 := HKb_Vw14.out.cell (i := 5) rfl
 have g6 := HKb_Vw14.out.cell (i := 6) rfl
 clear HIM
 have t0 := HSb_Vw14.out.cell (i := 0) rfl
 have t1 := HSb_Vw14.out.cell (i := 1) rfl
 have t2 := HSb_Vw14.out.cell (i := 2) rfl
 have t3 := HSb_Vw14.out.cell (i := 3) rfl
 have t4 := HSb_Vw14.out.cell (i := 4) rfl
 have t5 := HSb_Vw14.out.cell (i := 5) rfl
 have t6 := HSb_Vw14.out.cell (i := 6) rfl
 go_wp2_with fail
 clear hVw14
 clear g0 g1 g2 g3 g4 g5 g6
 clear t0 t1 t2 t3 t4 t5 t6
 refine (eqPart_same _ _ A _ HQ.out HK_Vw14.out.is HS_Vw14.out.is).mono ?_
 rintro e w15 ⟨rfl, hb⟩
 have z_w15 : Vw14.heap.size ≤ w15.heap.size := hb.size
 have HB_w15 : Hid (Below w.heap.size w w15) := HB_Vw14.out.trans (hb.mono HB_Vw14.out.size)
 have HP_w15 : Hid (Bk w15 w.heap.size 26 #[.int .i64 m.n, .int .i64 m.s, vi0, vh0, vs0, .int .i64 m.z]) := HP_Vw14.out.below hb
 have HS_w15 : Hid (PartF (fun k => w2.heap.size ≤ k ∧ k < w3.heap.size) w15 (.agg #[.int .i64 A.n, .slice fao A.st.r.length fbo, .int .i64 A.st.q, .int .i64 A.st.d, .slice fco A.p.length fdo, .slice feo A.t.length ffo, .slice fgo A.a.length fho]) A) := HS_Vw14.out.below hb
 have HSb_w15 : Hid (Bk w15 w3.heap.size 33 #[.int .i64 A.n, .slice fao A.st.r.length fbo, .int .i64 A.st.q, .int .i64 A.st.d, .slice fco A.p.length fdo, .slice feo A.t.length ffo, .slice fgo A.a.length fho]) := HSb_Vw14.out.below hb
 have HGb_w15 : Hid (Bk w15 w5.heap.size 33 #[.int .i64 A.n, .slice fag A.st.r.length fbg, .int .i64 A.st.q, .int .i64 A.st.d, .slice fcg A.p.length fdg, .slice feg A.t.length ffg, .slice fgg A.a.length fhg]) := HGb_Vw14.out.below hb
 have HH_w15 : Hid (HeldPart (fun k => Vw4.heap.size ≤ k ∧ k < w5.heap.size) w15 (.agg #[.int .i64 A.n, .slice fag A.st.r.length fbg, .int .i64 A.st.q, .int .i64 A.st.d, .slice fcg A.p.length fdg, .slice feg A.t.length ffg, .slice fgg A.a.length fhg]) A 1) := HH_Vw14.out.below hb
 have HK_w15 : Hid (PartF (fun k => w13.heap.size ≤ k ∧ k < w14.heap.size) w15 (.agg #[.int .i64 A.n, .slice fak A.st.r.length fbk, .int .i64 A.st.q, .int .i64 A.st.d, .slice fck A.p.length fdk, .slice fek A.t.length ffk, .slice fgk A.a.length fhk]) A) := HK_Vw14.out.below hb
 have HKb_w15 : Hid (Bk w15 w14.heap.size 33 #[.int .i64 A.n, .slice fak A.st.r.length fbk, .int .i64 A.st.q, .int .i64 A.st.d, .slice fck A.p.length fdk, .slice fek A.t.length ffk, .slice fgk A.a.length fhk]) := HKb_Vw14.out.below hb
 clear HB_Vw14 HP_Vw14 HS_Vw14 HSb_Vw14 HGb_Vw14 HH_Vw14 HK_Vw14 HKb_Vw14
 clear hb
 have g0 := HGb_w15.out.cell (i := 0) rfl
 have g1 := HGb_w15.out.cell (i := 1) rfl
 have g2 := HGb_w15.out.cell (i := 2) rfl
 have g3 := HGb_w15.out.cell (i := 3) rfl
 have g4 := HGb_w15.out.cell (i := 4) rfl
 have g5 := HGb_w15.out.cell (i := 5) rfl
 have g6 := HGb_w15.out.cell (i := 6) rfl
 go_wp2_with fail
 clear g0 g1 g2 g3 g4 g5 g6
 refine (heldPart_any 1 hq1 (by omega) (by omega) HH_w15.out).mono ?_
 rintro e w16 ⟨rfl, hb⟩
 have z_w16 : w15.heap.size ≤ w16.heap.size := hb.size
 have HB_w16 : Hid (Below w.heap.size w w16) := HB_w15.out.trans (hb.mono HB_w15.out.size)
 have HP_w16 : Hid (Bk w16 w.heap.size 26 #[.int .i64 m.n, .int .i64 m.s, vi0, vh0, vs0, .int .i64 m.z]) := HP_w15.out.below hb
 have HS_w16 : Hid (PartF (fun k => w2.heap.size ≤ k ∧ k < w3.heap.size) w16 (.agg #[.int .i64 A.n, .slice fao A.st.r.length fbo, .int .i64 A.st.q, .int .i64 A.st.d, .slice fco A.p.length fdo, .slice feo A.t.length ffo, .slice fgo A.a.length fho]) A) := HS_w15.out.below hb
 have HSb_w16 : Hid (Bk w16 w3.heap.size 33 #[.int .i64 A.n, .slice fao A.st.r.length fbo, .int .i64 A.st.q, .int .i64 A.st.d, .slice fco A.p.length fdo, .slice feo A.t.length ffo, .slice fgo A.a.length fho]) := HSb_w15.out.below hb
 have HGb_w16 : Hid (Bk w16 w5.heap.size 33 #[.int .i64 A.n, .slice fag A.st.r.length fbg, .int .i64 A.st.q, .int .i64 A.st.d, .slice fcg A.p.length fdg, .slice feg A.t.length ffg, .slice fgg A.a.length fhg]) := HGb_w15.out.below hb
 have HH_w16 : Hid (HeldPart (fun k => Vw4.heap.size ≤ k ∧ k < w5.heap.size) w16 (.agg #[.int .i64 A.n, .slice fag A.st.r.length fbg, .int .i64 A.st.q, .int .i64 A.st.d, .slice fcg A.p.length fdg, .slice feg A.t.length ffg, .slice fgg A.a.length fhg]) A 1) := HH_w15.out.below hb
 have HK_w16 : Hid (PartF (fun k => w13.heap.size ≤ k ∧ k < w14.heap.size) w16 (.agg #[.int .i64 A.n, .slice fak A.st.r.length fbk, .int .i64 A.st.q, .int .i64 A.st.d, .slice fck A.p.length fdk, .slice fek A.t.length ffk, .slice fgk A.a.length fhk]) A) := HK_w15.out.below hb
 have HKb_w16 : Hid (Bk w16 w14.heap.size 33 #[.int .i64 A.n, .slice fak A.st.r.length fbk, .int .i64 A.st.q, .int .i64 A.st.d, .slice fck A.p.length fdk, .slice fek A.t.length ffk, .slice fgk A.a.length fhk]) := HKb_w15.out.below hb
 clear HB_w15 HP_w15 HS_w15 HSb_w15 HGb_w15 HH_w15 HK_w15 HKb_w15
 clear hb
 go_wp2
 go_ret
 exact ⟨rfl, HB_w16.out⟩
end Go.Proofs.YtnccenbkpocjgaaGreat.LawExactPartNew

