/- SOk, VOpen, Open, OpenS -/
import Derived.Test.YthopkkafbaofhaaExactStateOkG06
import Derived.Test.YthopkkafbaofhaaExactStateOkG13
import Derived.Test.YthopkkafbaofhaaExactStateOkG00
import Derived.ProofKit
import Derived.ChangeOld
import Derived.OpenShut
import Derived.SizedLaws
import Derived.Test.YthopkkafbaofhaaRows
import Derived.Below
import Derived.Test.YthopkkafbaofhaaExactStateOkG01
/- Both StateOk. -/
namespace Go.Proofs.Ythopkkafbaofhaa
open Go.RowKit
def St.ok (s : St) : Bool := decide (s.r.length = 2 ∧ (0 ≤ intAt s.r 0 ∧ intAt s.r 0 ≤ 999) ∧ (0 ≤ intAt s.r 1 ∧ intAt s.r 1 ≤ 999) ∧ 0 ≤ s.q ∧ s.q ≤ 99992 ∧ 0 ≤ s.d ∧ s.d ≤ 99992)
set_option maxRecDepth 100000 in
set_option maxHeartbeats 4000000 in
theorem sStOk (x : Value) (s : St) (w : World) (h : IsS w x s) :
    Calls Try.prog 6 #[x] w fun e w' => e = .returned (.bool s.ok) ∧ Below w.heap.size w w' := by
  obtain ⟨vr, rfl, ai, ci, rfl, hi1, hi2, hi3⟩ := h
  clear hi1 hi2
  obtain ⟨W0, hW0⟩ : ∃ W0, w.alloc (.cells #[.slice ai s.r.length ci, .int .i64 s.q, .int .i64 s.d] 27) = W0 := ⟨_, rfl⟩
  have HB0 : Hid (Below w.heap.size w W0) := by rw [← hW0]; exact (Below.refl _ w).alloc (Nat.le_refl _) _
  have HP0 : Bk W0 w.heap.size 27 #[.slice ai s.r.length ci, .int .i64 s.q, .int .i64 s.d] := by rw [← hW0]; exact Bk.new w _ _
  have p0 := HP0.cell (i := 0) rfl
  have p1 := HP0.cell (i := 1) rfl
  have p2 := HP0.cell (i := 2) rfl
  clear HP0
  by_cases c0 : s.r.length = 2
  case neg =>
    have c1 : ¬ ((s.r.length : Int) = 2) := by omega
    clear hi3
    go_enter Try.func6, Try.ntmps6
    go_wp2
    go_ret
    exact ⟨ret_bool (by simp [St.ok, c0]), HB0.out⟩
  obtain ⟨b, off, rfl, hb, hc⟩ := hi3.resolve_left (by intro e; rw [e] at c0; simp at c0)
  have f0 : W0.cell? ⟨b, off, none⟩ = some (.int .i64 (intAt s.r 0)) := (HB0.out.cell (p := ⟨b, off, none⟩) hb).trans (hc 0 (by omega))
  have f1 : W0.cell? ⟨b, off + 1, none⟩ = some (.int .i64 (intAt s.r 1)) := (HB0.out.cell (p := ⟨b, off + 1, none⟩) hb).trans (hc 1 (by omega))
  have hok : s.ok = decide ((0 ≤ intAt s.r 0 ∧ intAt s.r 0 ≤ 999) ∧ (0 ≤ intAt s.r 1 ∧ intAt s.r 1 ≤ 999) ∧ 0 ≤ s.q ∧ s.q ≤ 99992 ∧ 0 ≤ s.d ∧ s.d ≤ 99992) := by simp [St.ok, c0]
  have HOK : Hid (s.ok = decide ((0 ≤ intAt s.r 0 ∧ intAt s.r 0 ≤ 999) ∧ (0 ≤ intAt s.r 1 ∧ intAt s.r 1 ≤ 999) ∧ 0 ≤ s.q ∧ s.q ≤ 99992 ∧ 0 ≤ s.d ∧ s.d ≤ 99992)) := hok
  rw [c0] at hW0 p0 ⊢
  generalize s.ok = okv at HOK ⊢
  generalize intAt s.r 0 = y at f0 HOK
  generalize intAt s.r 1 = z at f1 HOK
  generalize s.q = q at hW0 p1 HOK ⊢
  generalize s.d = d at hW0 p2 HOK ⊢
  clear hc hb hok c0
  go_enter Try.func6, Try.ntmps6
  go_wp2
  all_goals
    go_ret
    refine ⟨?_, HB0.out⟩
    rw [HOK.out]
    first | exact ret_bool (decide_eq_decide.2 (by omega)) | exact ret_bool (decide_eq_false (by omega)).symm | exact ret_bool (by simp; omega)
set_option maxRecDepth 100000 in
set_option maxHeartbeats 4000000 in
theorem iStOk (x : Value) (s : St) (w : World) (h : IsS w x s) :
    Calls Try.prog 8 #[x] w fun e w' => e = .returned (.bool s.ok) ∧ Below w.heap.size w w' := by
  obtain ⟨vr, rfl, ai, ci, rfl, hi1, hi2, hi3⟩ := h
  clear hi1 hi2
  obtain ⟨W0, hW0⟩ : ∃ W0, w.alloc (.cells #[.slice ai s.r.length ci, .int .i64 s.q, .int .i64 s.d] 27) = W0 := ⟨_, rfl⟩
  have HB0 : Hid (Below w.heap.size w W0) := by rw [← hW0]; exact (Below.refl _ w).alloc (Nat.le_refl _) _
  have HP0 : Bk W0 w.heap.size 27 #[.slice ai s.r.length ci, .int .i64 s.q, .int .i64 s.d] := by rw [← hW0]; exact Bk.new w _ _
  have p0 := HP0.cell (i := 0) rfl
  have p1 := HP0.cell (i := 1) rfl
  have p2 := HP0.cell (i := 2) rfl
  clear HP0
  by_cases c0 : s.r.length = 2
  case neg =>
    have c1 : ¬ ((s.r.length : Int) = 2) := by omega
    clear hi3
    go_enter Try.func8, Try.ntmps8
    go_wp2
    go_ret
    exact ⟨ret_bool (by simp [St.ok, c0]), HB0.out⟩
  obtain ⟨b, off, rfl, hb, hc⟩ := hi3.resolve_left (by intro e; rw [e] at c0; simp at c0)
  have HC : Hid (∀ k, k < 2 → W0.cell? ⟨b, off + k, none⟩ = some (.int .i64 (intAt s.r k))) := fun k hk => (HB0.out.cell (p := ⟨b, off + k, none⟩) hb).trans (hc k (by omega))
  have HOK : Hid (s.ok = decide ((0 ≤ intAt s.r 0 ∧ intAt s.r 0 ≤ 999) ∧ (0 ≤ intAt s.r 1 ∧ intAt s.r 1 ≤ 999) ∧ 0 ≤ s.q ∧ s.q ≤ 99992 ∧ 0 ≤ s.d ∧ s.d ≤ 99992)) := (by simp [St.ok, c0] : s.ok = _)
  have HNO : Hid (∀ k, k < 2 → inB (intAt s.r k) = false → s.ok = false) := (by
    intro k hk h
    unfold inB at h
    have hd := of_decide_eq_false h
    simp only [St.ok, decide_eq_false_iff_not]
    intro hh
    match k, hk with
    | 0, _ => exact hd hh.2.1
    | 1, _ => exact hd hh.2.2.1 : ∀ k, k < 2 → inB (intAt s.r k) = false → s.ok = false)
  have HYES : Hid ((∀ j, j < 2 → inB (intAt s.r j) = true) → s.ok = ((decide (0 ≤ s.q) && decide (s.q ≤ 99992)) && (decide (0 ≤ s.d) && decide (s.d ≤ 99992)))) := (by
    intro h
    have h0 := of_decide_eq_true (h 0 (by omega))
    have h1 := of_decide_eq_true (h 1 (by omega))
    simp [St.ok, c0, h0, h1, Bool.decide_and, Bool.and_assoc] : _)
  rw [c0] at hW0 p0 ⊢
  generalize s.ok = okv at HOK HNO HYES ⊢
  generalize s.q = q at hW0 p1 HOK HYES ⊢
  generalize s.d = d at hW0 p2 HOK HYES ⊢
  clear hc hb c0 HOK
  go_enter Try.func8, Try.ntmps8
  go_wp2
  clear hW0
  go_loop [12] (fun i => ∃ k : Nat, k ≤ 2 ∧ i = .int .i64 k ∧ ∀ j, j < k → inB (intAt s.r j) = true) (fun i => 2 - (intOf i).toNat)
  case atStart => exact ⟨0, Nat.zero_le _, rfl, fun j hj => by omega⟩
  case round =>
    obtain ⟨k, hk, rfl, hall⟩ := hrel
    have HA : Hid (∀ j, j < k → inB (intAt s.r j) = true) := hall
    clear hall
    by_cases hlt : k < 2
    · have f0 := HC.out k hlt
      obtain ⟨y, hy⟩ : ∃ y, y = intAt s.r k := ⟨_, rfl⟩
      have HY : Hid (y = intAt s.r k) := hy
      rw [← hy] at f0
      have hkn : (k : Int) < 2 := by omega
      clear hy
      go_wp2_with fail
      refine (within_any _ _ _ _).mono ?_
      rintro e w2 ⟨rfl, hw⟩
      have hw' := hw.symm
      clear hw
      subst hw'
      by_cases y0 : 0 ≤ y ∧ y ≤ 999
      · rw [show (decide (0 ≤ y) && decide (y ≤ 999)) = true from by simp [y0]]
        have HN : Hid (inB y = true) := decide_eq_true y0
        clear y0
        go_wp2
        go_round
        case rel => exact ⟨k + 1, by omega, by go_num, fun j hj => by
          by_cases e : j < k
          · exact HA.out j e
          · rw [show j = k by omega, ← HY.out]; exact HN.out⟩
        case measure => simp [intOf]; omega
      · rw [show (decide (0 ≤ y) && decide (y ≤ 999)) = false from by simp; omega]
        have hno : okv = false := HNO.out k hlt (by rw [← HY.out]; exact decide_eq_false y0)
        subst hno
        clear y0
        go_wp2
        go_ret
        exact ⟨rfl, HB0.out⟩
    · have hyes := HYES.out (fun j hj => HA.out j (by omega))
      subst hyes
      have hkn : ¬ (k : Int) < 2 := by omega
      go_wp2_with fail
      refine (within_any _ _ _ _).mono ?_
      rintro e w2 ⟨rfl, hw⟩
      have hw' := hw.symm
      clear hw
      subst hw'
      cases hq : (decide (0 ≤ q) && decide (q ≤ 99992)) with
      | false =>
        have HQ : Hid ((decide (0 ≤ q) && decide (q ≤ 99992)) = false) := hq
        clear hq
        go_wp2
        go_ret
        exact ⟨ret_bool (by rw [HQ.out]; rfl), HB0.out⟩
      | true =>
        have HQ : Hid ((decide (0 ≤ q) && decide (q ≤ 99992)) = true) := hq
        clear hq
        go_wp2_with fail
        refine (within_any _ _ _ _).mono ?_
        rintro e w2 ⟨rfl, hw⟩
        have hw' := hw.symm
        clear hw
        subst hw'
        go_wp2
        go_ret
        exact ⟨ret_bool (by rw [HQ.out]; rfl), HB0.out⟩
end Go.Proofs.Ythopkkafbaofhaa

/- How a list of numbers that came in is read. -/
namespace Go.Proofs.Ythopkkafbaofhaa
open Go.ChangeShapes Go.WideShapes Go.ChangeAt Go.RowKit

theorem own : ownKnob Try.prog.godebug = none := by kernel_rfl
theorem laidOut : laidOutB Try.prog = true := by kernel_rfl
theorem cells3 : Try.prog.cellsOf 3 = 1 := by kernel_rfl
theorem add_plain (b off n : Nat) : (⟨b, off, none⟩ : Addr).add n = ⟨b, off + n, none⟩ := by
  unfold Addr.add
  split <;> simp_all
theorem ints_list {w : World} {b off : Nat} : ∀ n, (∀ i, i < n → ∃ z : Int, w.cell? ⟨b, off + i, none⟩ = some (.int .i64 z)) → ∃ l : List Int, l.length = n ∧ ∀ i, i < n → w.cell? ⟨b, off + i, none⟩ = some (.int .i64 (intAt l i))
  | 0, _ => ⟨[], rfl, fun i hi => by omega⟩
  | n + 1, h => by
    obtain ⟨l, hl, hi⟩ := ints_list n (fun i hi => h i (by omega))
    obtain ⟨e, he⟩ := h n (by omega)
    refine ⟨l ++ [e], by simp [hl], fun i hi' => ?_⟩
    by_cases hin : i < n
    · have : intAt (l ++ [e]) i = intAt l i := by unfold intAt; simp [List.getElem?_append_left (by omega : i < l.length)]
      rw [this]; exact hi i hin
    · have : intAt (l ++ [e]) i = e := by unfold intAt; simp [show i = l.length by omega]
      rw [this, show i = n by omega]; exact he
set_option maxRecDepth 100000 in
theorem open_ints' {H : Type} {enc : TypeId × Value → H} {w : World} {b0 : Nat} {spare : Nat → Bool} {held : Bool} {r : Reach} {v : Value} {d : DataW H} {p : List MemPlace}
    (hv : Value.okWide Try.prog w r b0 22 v) (h : DataW.Trod enc Try.prog w 0 spare held 22 v d p) : ∃ l : List Int, IsI w v l := by
  obtain ⟨a0, len, cap, rfl⟩ := okWide_slice Try.underlying22 hv
  obtain ⟨fuel, hf⟩ := h
  rcases DataW.trod_slice Try.underlying22 hf with ⟨hcs, _⟩ | ⟨a, len', cap', elems, rest, n, _, hcs, _, hb, hl, hm, hlen, hel, _, _⟩
  · simp [Value.cells] at hcs
    obtain ⟨rfl, rfl, rfl⟩ := hcs
    exact ⟨[], _, _, rfl, Nat.le_refl _, by unfold maxLen; omega, .inl rfl⟩
  · simp [Value.cells] at hcs
    obtain ⟨rfl, rfl, rfl⟩ := hcs
    by_cases h0 : len = 0
    · subst h0
      exact ⟨[], _, _, rfl, hl, hm, .inl rfl⟩
    · obtain ⟨b, off, spot⟩ := a
      have hs : spot = none := by
        have h1 := hel 0 (by omega)
        rw [cells3, List.getElem?_eq_getElem (by omega)] at h1
        obtain ⟨cs, hc, ht⟩ := Option.bind_eq_some_iff.1 h1
        obtain ⟨t, rfl, _⟩ := DataW.trod_int Try.underlying3 ht
        have c0 := (World.cells?_some hc).2.2 0 (by omega)
        simpa [Addr.add] using World.cell?_spot c0
      subst hs
      have each : ∀ i, i < len → ∃ z : Int, w.cell? ⟨b, off + i, none⟩ = some (.int .i64 z) ∧ b < w.heap.size := by
        intro i hi
        have h1 := hel i hi
        rw [cells3, List.getElem?_eq_getElem (by omega), add_plain] at h1
        obtain ⟨cs, hc, ht⟩ := Option.bind_eq_some_iff.1 h1
        obtain ⟨t, rfl, _, hw⟩ := DataW.trod_int Try.underlying3 ht
        have hblk : b < w.heap.size := World.cells?_block hc (by omega)
        obtain ⟨_, _, hcell⟩ := World.cells?_some hc
        have h2 := hcell 0 (by omega)
        simp only [add_plain] at h2
        exact ⟨t, by simpa using h2, hblk⟩
      obtain ⟨_, _, hblk⟩ := each 0 (by omega)
      obtain ⟨l, rfl, hi⟩ := ints_list (w := w) (b := b) (off := off) len (fun i hi => by
        obtain ⟨e, he, _⟩ := each i hi
        exact ⟨e, he⟩)
      exact ⟨l, _, _, rfl, hl, hm, .inr ⟨b, off, rfl, hblk, hi⟩⟩
end Go.Proofs.Ythopkkafbaofhaa

/- How an event that came in is read: seven integers. -/
namespace Go.Proofs.Ythopkkafbaofhaa
open Go.ChangeShapes Go.WideShapes Go.ChangeAt Go.RowKit

theorem cells23 : Try.prog.cellsOf 73 = 7 := by kernel_rfl

def wfI (x : Int) : Prop := (Lit.int .i64 x).wf = true

theorem list7 {α : Type} {l : List α} (h : l.length = 7) : ∃ a b c d e f g, l = [a, b, c, d, e, f, g] := by
  match l, h with
  | [a, b, c, d, e, f, g], _ => exact ⟨a, b, c, d, e, f, g, rfl⟩

set_option maxRecDepth 100000 in
theorem trod_ev {H : Type} {enc : TypeId × Value → H} {w : World} {base : Nat} {spare : Nat → Bool} {held : Bool} {fuel : Nat} {cs : List Value} {x : DataW H × List MemPlace}
    (h : DataW.trod enc Try.prog w base spare held fuel 73 cs = some x) :
    ∃ t s q d k v g : Int, cs = [.int .i64 t, .int .i64 s, .int .i64 q, .int .i64 d, .int .i64 k, .int .i64 v, .int .i64 g] ∧ wfI t ∧ wfI s ∧ wfI q ∧ wfI d ∧ wfI k ∧ wfI v ∧ wfI g := by
  obtain ⟨xs, n, _, rfl, hl, hlen, hf⟩ := DataW.trod_struct Try.underlying73 h
  rw [cells23] at hl
  obtain ⟨c0, c1, c2, c3, c4, c5, c6, rfl⟩ := list7 hl
  have hx : xs.length = 7 := by simpa using hlen
  obtain ⟨y0, y1, y2, y3, y4, y5, y6, rfl⟩ := list7 hx
  have h0 := hf 0 _ rfl
  have h1 := hf 1 _ rfl
  have h2 := hf 2 _ rfl
  have h3 := hf 3 _ rfl
  have h4 := hf 4 _ rfl
  have h5 := hf 5 _ rfl
  have h6 := hf 6 _ rfl
  obtain ⟨a0, e0, _, w0⟩ := DataW.trod_int Try.underlying3 h0
  obtain ⟨a1, e1, _, w1⟩ := DataW.trod_int Try.underlying3 h1
  obtain ⟨a2, e2, _, w2⟩ := DataW.trod_int Try.underlying3 h2
  obtain ⟨a3, e3, _, w3⟩ := DataW.trod_int Try.underlying3 h3
  obtain ⟨a4, e4, _, w4⟩ := DataW.trod_int Try.underlying3 h4
  obtain ⟨a5, e5, _, w5⟩ := DataW.trod_int Try.underlying3 h5
  obtain ⟨a6, e6, _, w6⟩ := DataW.trod_int Try.underlying3 h6
  simp [cells3] at e0 e1 e2 e3 e4 e5 e6
  subst e0 e1 e2 e3 e4 e5 e6
  exact ⟨a0, a1, a2, a3, a4, a5, a6, rfl, w0, w1, w2, w3, w4, w5, w6⟩

set_option maxRecDepth 100000 in
theorem open_ev {H : Type} {enc : TypeId × Value → H} {w : World} {base b0 : Nat} {spare : Nat → Bool} {held : Bool} {r : Reach} {v : Value} {d : DataW H} {p : List MemPlace}
    (hv : Value.okWide Try.prog w r b0 73 v) (h : DataW.Trod enc Try.prog w base spare held 73 v d p) :
    ∃ t s q d k z g : Int, v = .agg #[.int .i64 t, .int .i64 s, .int .i64 q, .int .i64 d, .int .i64 k, .int .i64 z, .int .i64 g] ∧ wfI t ∧ wfI s ∧ wfI q ∧ wfI d ∧ wfI k ∧ wfI z ∧ wfI g := by
  obtain ⟨cs, rfl, hsz⟩ := okWide_struct Try.underlying73 hv
  obtain ⟨fuel, hf⟩ := h
  obtain ⟨t, s, q, d, k, z, g, e, hw⟩ := trod_ev hf
  refine ⟨t, s, q, d, k, z, g, ?_, hw⟩
  rw [show cs = #[.int .i64 t, .int .i64 s, .int .i64 q, .int .i64 d, .int .i64 k, .int .i64 z, .int .i64 g] from by
    apply Array.toList_inj.1
    simpa [Value.cells] using e]
end Go.Proofs.Ythopkkafbaofhaa

/- How a list of events that came in is read. -/
namespace Go.Proofs.Ythopkkafbaofhaa
open Go.ChangeShapes Go.WideShapes Go.ChangeAt Go.RowKit

theorem evs_list {w : World} {b off : Nat} : ∀ n, (∀ i, i < n → ∃ e : Ev, Ev.In w b (off + i * 7) e) → ∃ l : List Ev, l.length = n ∧ ∀ i, i < n → Ev.In w b (off + i * 7) (evAt l i)
  | 0, _ => ⟨[], rfl, fun i hi => by omega⟩
  | n + 1, h => by
    obtain ⟨l, hl, hi⟩ := evs_list n (fun i hi => h i (by omega))
    obtain ⟨e, he⟩ := h n (by omega)
    refine ⟨l ++ [e], by simp [hl], fun i hi' => ?_⟩
    by_cases hin : i < n
    · have : evAt (l ++ [e]) i = evAt l i := by unfold evAt; simp [List.getElem?_append_left (by omega : i < l.length)]
      rw [this]; exact hi i hin
    · have : evAt (l ++ [e]) i = e := by unfold evAt; simp [show i = l.length by omega]
      rw [this, show i = n by omega]; exact he

set_option maxRecDepth 100000 in
theorem open_evs {H : Type} {enc : TypeId × Value → H} {w : World} {b0 : Nat} {spare : Nat → Bool} {held : Bool} {r : Reach} {v : Value} {d : DataW H} {p : List MemPlace}
    (hv : Value.okWide Try.prog w r b0 32 v) (h : DataW.Trod enc Try.prog w 0 spare held 32 v d p) : ∃ l : List Ev, IsEvs w v l := by
  obtain ⟨a0, len, cap, rfl⟩ := okWide_slice Try.underlying32 hv
  obtain ⟨fuel, hf⟩ := h
  rcases DataW.trod_slice Try.underlying32 hf with ⟨hcs, _⟩ | ⟨a, len', cap', elems, rest, n, _, hcs, _, hb, hl, hm, hlen, hel, _, _⟩
  · simp [Value.cells] at hcs
    obtain ⟨rfl, rfl, rfl⟩ := hcs
    exact ⟨[], _, _, rfl, Nat.le_refl _, by unfold maxLen; omega, .inl rfl⟩
  · simp [Value.cells] at hcs
    obtain ⟨rfl, rfl, rfl⟩ := hcs
    by_cases h0 : len = 0
    · subst h0
      exact ⟨[], _, _, rfl, hl, hm, .inl rfl⟩
    · obtain ⟨b, off, spot⟩ := a
      have hs : spot = none := by
        have h1 := hel 0 (by omega)
        rw [cells23, List.getElem?_eq_getElem (by omega)] at h1
        obtain ⟨cs, hc, ht⟩ := Option.bind_eq_some_iff.1 h1
        obtain ⟨t, s, q, d, k, v, g, rfl, _⟩ := trod_ev ht
        have c0 := (World.cells?_some hc).2.2 0 (by omega)
        simpa [Addr.add] using World.cell?_spot c0
      subst hs
      have each : ∀ i, i < len → ∃ e : Ev, Ev.In w b (off + i * 7) e ∧ b < w.heap.size := by
        intro i hi
        have h1 := hel i hi
        rw [cells23, List.getElem?_eq_getElem (by omega), add_plain] at h1
        obtain ⟨cs, hc, ht⟩ := Option.bind_eq_some_iff.1 h1
        obtain ⟨t, s, q, d, k, v, g, rfl, _⟩ := trod_ev ht
        have hblk : b < w.heap.size := World.cells?_block hc (by omega)
        obtain ⟨_, _, hcell⟩ := World.cells?_some hc
        simp only [add_plain] at hcell
        exact ⟨⟨t, s, q, d, k, v, g⟩, ⟨hcell 0 (by omega), hcell 1 (by omega), hcell 2 (by omega), hcell 3 (by omega), hcell 4 (by omega), hcell 5 (by omega), hcell 6 (by omega)⟩, hblk⟩
      obtain ⟨_, _, hblk⟩ := each 0 (by omega)
      obtain ⟨l, rfl, hi⟩ := evs_list (w := w) (b := b) (off := off) len (fun i hi => by
        obtain ⟨e, he, _⟩ := each i hi
        exact ⟨e, he⟩)
      exact ⟨l, _, _, rfl, hl, hm, .inr ⟨b, off, rfl, hblk, hi⟩⟩
end Go.Proofs.Ythopkkafbaofhaa

