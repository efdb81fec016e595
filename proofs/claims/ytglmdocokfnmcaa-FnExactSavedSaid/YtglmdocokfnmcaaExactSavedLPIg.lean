/- The program's doings. -/
import Derived.Test.YtglmdocokfnmcaaExactSavedG21
import Derived.Deep.RegionHeld3
namespace Go.Proofs.Ytglmdocokfnmcaa
open Go.RowKit
theorem run_append_zero {P : Program} {w : World} (base : Nat) (t ty e : TypeId) (i : TypeInfo) (size : Nat) (ht : P.underlying t = some (.slice e)) (hi : P.info? e = some i)
    (v : Value) (n c : Nat) (xs : List Value) (hown : w.ownsRow base e size v n xs) :
    (Builtin.append_ #[t, t] ty #[v, .slice none 0 c]).run P w = .ok v w := by
  rcases hown.2 with ⟨rfl, rfl⟩ | ⟨g, cap, cur, rfl, _, _, hnc, _⟩
  · simp [Builtin.append_, run_underlying ht, sizeOf, typeInfo, hi, Builtin.lenOf, Builtin.firstCells]
  · simp [Builtin.append_, run_underlying ht, sizeOf, typeInfo, hi, Builtin.lenOf, Builtin.firstCells, hnc, storeCells]
theorem step_append_zero {P : Program} {ops : Array Oper} {o : Oper} {a : Act} {w : World} {K : Act → World → Prop} {Q : Exit → Act → World → Prop} {E : Prop}
    (hg : o.guard = none) (s x : Operand) (t : TypeId) (hop : o.op = Op.call { callee := Callee.builtin Builtin.append, args := #[s, x], argTypes := #[t, t] })
    (base : Nat) (e : TypeId) (i : TypeInfo) (size : Nat) (h1 : P.underlying t = some (.slice e)) (h2 : P.info? e = some i)
    (v : Value) (n c : Nat) (xs : List Value) (hs : a.eval s = v) (hown : w.ownsRow base e size v n xs) (hx : a.eval x = .slice none 0 c)
    (hK : K (a.put o.dst v) w) :
    if Region.wanted o (yielded ops a.tmps) = true then Oper.wp P o a w K Q else E := by
  have hw : Region.wanted o (yielded ops a.tmps) = true := by simp [Region.wanted, hg]
  rw [if_pos hw]
  have hrun := run_append_zero (P := P) (w := w) base t o.type e i size h1 h2 v n c xs hown
  unfold Oper.wp
  simp [execOp, hop, resolve, invoke, builtin, hs, hx, hrun, Result.andThen]
  exact hK
theorem off_grown {w w' : World} {P : Nat} {T : TypeId} {vs : Array Value} {row : Option Nat} (h : Bk w P T vs) (hg : w.grownBy w' row) (hne : row = some P → False) : Bk w' P T vs :=
  (hg.block P h.lt (fun e => hne e.symm)).trans h
set_option maxRecDepth 100000 in
set_option maxHeartbeats 8000000 in
theorem iDoings (x : Value) (p : Pa) (w : World) (hw : p.wt ≤ 1048576) (h : IsPart w x p) :
    Calls Try.prog 78 #[x] w fun e w' => ∃ y, e = .returned y ∧ OwnR w.heap.size w' y p.all ∧ Below w.heap.size w w' := by
  have HI : Hid (IsPart w x p) := h
  obtain ⟨v1, v4, v5, v6, rfl, h1, h4, h5, h6⟩ := h
  have hwt := hw
  unfold Pa.wt at hwt
  simp only [ints_wt, evs_wt] at hwt
  have hel : p.es.length ≤ 1048576 := by rw [es_length]; have := pastsD_wt p.p; omega
  have htl : p.t.length ≤ 1048576 := by omega
  obtain ⟨ta, tc, rfl, _, _, h5⟩ := h5.isEvs
  clear h1 h4 h6 hwt
  obtain ⟨i0, hi, hz0, hz1, hz2⟩ := info_parts info25
  cases ta with
  | none =>
    have ht0 : p.t = [] := h5.resolve_right (by rintro ⟨b, off, e, _⟩; cases e)
    have HT0 : Hid (p.t = []) := ht0
    have HI' : Hid (IsPart w (.agg #[.int .i64 p.n, v1, .int .i64 p.st.q, .int .i64 p.st.d, v4, .slice none 0 tc, v6]) p) := by
      have h9 := HI.out
      rw [ht0] at h9
      exact h9
    clear HI
    have HI := HI'
    rw [ht0]
    clear ht0 h5 HI'
    show Calls Try.prog 78 #[.agg #[.int .i64 p.n, v1, .int .i64 p.st.q, .int .i64 p.st.d, v4, .slice none 0 tc, v6]] w _
    obtain ⟨W0, hW0⟩ : ∃ W0, w.alloc (.cells #[.int .i64 p.n, v1, .int .i64 p.st.q, .int .i64 p.st.d, v4, .slice none 0 tc, v6] 35) = W0 := ⟨_, rfl⟩
    have HB0 : Hid (Below w.heap.size w W0) := by rw [← hW0]; exact (Below.refl _ w).alloc (Nat.le_refl _) _
    have HP0 : Hid (Bk W0 w.heap.size 35 #[.int .i64 p.n, v1, .int .i64 p.st.q, .int .i64 p.st.d, v4, .slice none 0 tc, v6]) := by rw [← hW0]; exact Bk.new w _ _
    have hs0 : w.heap.size < W0.heap.size := HP0.out.lt
    have hs0d : w.heap.size ≤ W0.drew.heap.size := Nat.le_of_lt hs0
    have HI0 : Hid (IsPart W0.drew (.agg #[.int .i64 p.n, v1, .int .i64 p.st.q, .int .i64 p.st.d, v4, .slice none 0 tc, v6]) p) := HI.out.under HB0.out.drew
    have HS0 : Hid (W0.drew.cell? ⟨w.heap.size, 0, none⟩ = some (.int .i64 p.n) ∧ W0.drew.cell? ⟨w.heap.size, 1, none⟩ = some (v1) ∧ W0.drew.cell? ⟨w.heap.size, 2, none⟩ = some (.int .i64 p.st.q) ∧ W0.drew.cell? ⟨w.heap.size, 3, none⟩ = some (.int .i64 p.st.d) ∧ W0.drew.cell? ⟨w.heap.size, 4, none⟩ = some (v4) ∧ W0.drew.cell? ⟨w.heap.size, 5, none⟩ = some (.slice none 0 tc) ∧ W0.drew.cell? ⟨w.heap.size, 6, none⟩ = some (v6)) := ⟨HP0.out.drew.cell (i := 0) rfl, HP0.out.drew.cell (i := 1) rfl, HP0.out.drew.cell (i := 2) rfl, HP0.out.drew.cell (i := 3) rfl, HP0.out.drew.cell (i := 4) rfl, HP0.out.drew.cell (i := 5) rfl, HP0.out.drew.cell (i := 6) rfl⟩
    go_enter Try.func78, Try.ntmps78
    go_wp2
    clear hW0
    go_region_held3 (fun W => W.cell? ⟨w.heap.size, 0, none⟩ = some (.int .i64 p.n) ∧ W.cell? ⟨w.heap.size, 1, none⟩ = some (v1) ∧ W.cell? ⟨w.heap.size, 2, none⟩ = some (.int .i64 p.st.q) ∧ W.cell? ⟨w.heap.size, 3, none⟩ = some (.int .i64 p.st.d) ∧ W.cell? ⟨w.heap.size, 4, none⟩ = some (v4) ∧ W.cell? ⟨w.heap.size, 5, none⟩ = some (.slice none 0 tc) ∧ W.cell? ⟨w.heap.size, 6, none⟩ = some (v6)) (first | exact HS0.out | exact HS2.out | exact HS3.out)
      (first | (go_at_call 101; refine (iDone _ p _ hw HI0.out).mono ?_; rintro e w2 ⟨y, rfl, ho, hb⟩; have HOb : Hid (OwnR W0.heap.size w2 y p.es) := ho; have HO2 : Hid (w2.ownsRow w.heap.size 40 7 y p.es.length (cellsL p.es)) := ho.mono hs0d; have HB2 : Hid (Below w.heap.size w w2) := HB0.out.drew.trans (hb.mono hs0d); have HX2 : Hid (Bk w2 w.heap.size 35 #[.int .i64 p.n, v1, .int .i64 p.st.q, .int .i64 p.st.d, v4, .slice none 0 tc, v6]) := HP0.out.drew.below hb; have HS2 : Hid (w2.cell? ⟨w.heap.size, 0, none⟩ = some (.int .i64 p.n) ∧ w2.cell? ⟨w.heap.size, 1, none⟩ = some (v1) ∧ w2.cell? ⟨w.heap.size, 2, none⟩ = some (.int .i64 p.st.q) ∧ w2.cell? ⟨w.heap.size, 3, none⟩ = some (.int .i64 p.st.d) ∧ w2.cell? ⟨w.heap.size, 4, none⟩ = some (v4) ∧ w2.cell? ⟨w.heap.size, 5, none⟩ = some (.slice none 0 tc) ∧ w2.cell? ⟨w.heap.size, 6, none⟩ = some (v6)) := ⟨HX2.out.cell (i := 0) rfl, HX2.out.cell (i := 1) rfl, HX2.out.cell (i := 2) rfl, HX2.out.cell (i := 3) rfl, HX2.out.cell (i := 4) rfl, HX2.out.cell (i := 5) rfl, HX2.out.cell (i := 6) rfl⟩; have hsz2 : w.heap.size ≤ w2.heap.size := HB2.out.size; clear ho hb) | (refine step_append_zero (w := w2) rfl (.tmp 4) (.tmp 6) 33 rfl w.heap.size 40 i0 7 Try.underlying33 hi y p.es.length tc (cellsL p.es) rfl HO2.out rfl ?_))
    go_wp2
    go_ret
    exact ⟨_, rfl, by unfold OwnR Pa.all; rw [HT0.out, List.append_nil]; exact HO2.out, HB2.out⟩
  | some ad =>
    have HC : Hid (∀ w2, Below w.heap.size w w2 → ∀ j u, (cellsL p.t)[j]? = some u → w2.cell? (ad.add j) = some u) := by
      rcases h5 with e | ⟨b, off, e, hI⟩
      · intro w2 _ j u hu
        rw [e] at hu
        simp [cellsL] at hu
      · cases e
        exact fun w2 hb => (hI.below hb hI.1).cells
    clear h5
    obtain ⟨W0, hW0⟩ : ∃ W0, w.alloc (.cells #[.int .i64 p.n, v1, .int .i64 p.st.q, .int .i64 p.st.d, v4, .slice (some ad) p.t.length tc, v6] 35) = W0 := ⟨_, rfl⟩
    have HB0 : Hid (Below w.heap.size w W0) := by rw [← hW0]; exact (Below.refl _ w).alloc (Nat.le_refl _) _
    have HP0 : Hid (Bk W0 w.heap.size 35 #[.int .i64 p.n, v1, .int .i64 p.st.q, .int .i64 p.st.d, v4, .slice (some ad) p.t.length tc, v6]) := by rw [← hW0]; exact Bk.new w _ _
    have hs0 : w.heap.size < W0.heap.size := HP0.out.lt
    have hs0d : w.heap.size ≤ W0.drew.heap.size := Nat.le_of_lt hs0
    have HI0 : Hid (IsPart W0.drew (.agg #[.int .i64 p.n, v1, .int .i64 p.st.q, .int .i64 p.st.d, v4, .slice (some ad) p.t.length tc, v6]) p) := HI.out.under HB0.out.drew
    have HS0 : Hid (W0.drew.cell? ⟨w.heap.size, 0, none⟩ = some (.int .i64 p.n) ∧ W0.drew.cell? ⟨w.heap.size, 1, none⟩ = some (v1) ∧ W0.drew.cell? ⟨w.heap.size, 2, none⟩ = some (.int .i64 p.st.q) ∧ W0.drew.cell? ⟨w.heap.size, 3, none⟩ = some (.int .i64 p.st.d) ∧ W0.drew.cell? ⟨w.heap.size, 4, none⟩ = some (v4) ∧ W0.drew.cell? ⟨w.heap.size, 5, none⟩ = some (.slice (some ad) p.t.length tc) ∧ W0.drew.cell? ⟨w.heap.size, 6, none⟩ = some (v6)) := ⟨HP0.out.drew.cell (i := 0) rfl, HP0.out.drew.cell (i := 1) rfl, HP0.out.drew.cell (i := 2) rfl, HP0.out.drew.cell (i := 3) rfl, HP0.out.drew.cell (i := 4) rfl, HP0.out.drew.cell (i := 5) rfl, HP0.out.drew.cell (i := 6) rfl⟩
    go_enter Try.func78, Try.ntmps78
    go_wp2
    clear hW0
    go_region_held3 (fun W => W.cell? ⟨w.heap.size, 0, none⟩ = some (.int .i64 p.n) ∧ W.cell? ⟨w.heap.size, 1, none⟩ = some (v1) ∧ W.cell? ⟨w.heap.size, 2, none⟩ = some (.int .i64 p.st.q) ∧ W.cell? ⟨w.heap.size, 3, none⟩ = some (.int .i64 p.st.d) ∧ W.cell? ⟨w.heap.size, 4, none⟩ = some (v4) ∧ W.cell? ⟨w.heap.size, 5, none⟩ = some (.slice (some ad) p.t.length tc) ∧ W.cell? ⟨w.heap.size, 6, none⟩ = some (v6)) (first | exact HS0.out | exact HS2.out | exact HS3.out)
      (first | (go_at_call 101; refine (iDone _ p _ hw HI0.out).mono ?_; rintro e w2 ⟨y, rfl, ho, hb⟩; have HOb : Hid (OwnR W0.heap.size w2 y p.es) := ho; have HO2 : Hid (w2.ownsRow w.heap.size 40 7 y p.es.length (cellsL p.es)) := ho.mono hs0d; have HB2 : Hid (Below w.heap.size w w2) := HB0.out.drew.trans (hb.mono hs0d); have HX2 : Hid (Bk w2 w.heap.size 35 #[.int .i64 p.n, v1, .int .i64 p.st.q, .int .i64 p.st.d, v4, .slice (some ad) p.t.length tc, v6]) := HP0.out.drew.below hb; have HS2 : Hid (w2.cell? ⟨w.heap.size, 0, none⟩ = some (.int .i64 p.n) ∧ w2.cell? ⟨w.heap.size, 1, none⟩ = some (v1) ∧ w2.cell? ⟨w.heap.size, 2, none⟩ = some (.int .i64 p.st.q) ∧ w2.cell? ⟨w.heap.size, 3, none⟩ = some (.int .i64 p.st.d) ∧ w2.cell? ⟨w.heap.size, 4, none⟩ = some (v4) ∧ w2.cell? ⟨w.heap.size, 5, none⟩ = some (.slice (some ad) p.t.length tc) ∧ w2.cell? ⟨w.heap.size, 6, none⟩ = some (v6)) := ⟨HX2.out.cell (i := 0) rfl, HX2.out.cell (i := 1) rfl, HX2.out.cell (i := 2) rfl, HX2.out.cell (i := 3) rfl, HX2.out.cell (i := 4) rfl, HX2.out.cell (i := 5) rfl, HX2.out.cell (i := 6) rfl⟩; have hsz2 : w.heap.size ≤ w2.heap.size := HB2.out.size; have HC2 : Hid (∀ j u, (cellsL p.t)[j]? = some u → w2.cell? (ad.add j) = some u) := HC.out w2 HB2.out; clear ho hb) | (refine step_append_own (w := w2) rfl (.tmp 4) (.tmp 6) 33 rfl w.heap.size 40 i0 _ 7 56 Try.underlying33 hi hz0 hz1 hz2 rfl (by decide) y p.es.length (cellsL p.es) rfl HO2.out ad p.t.length tc (cellsL p.t) rfl (cellsL_length p.t) HC2.out (cellsL_one p.t) (by unfold maxLen; omega) (by omega) hsz2 ?_; intro y3 w3 hown3 hgrow3; have HO3 : Hid (w3.ownsRow w.heap.size 40 7 y3 (p.es.length + p.t.length) (cellsL p.es ++ cellsL p.t)) := hown3; have HB3 : Hid (Below w.heap.size w w3) := HB2.out.grown hgrow3 hsz2 (fun k e => row_ge HO2.out e); have HX3 : Bk w3 w.heap.size 35 #[.int .i64 p.n, v1, .int .i64 p.st.q, .int .i64 p.st.d, v4, .slice (some ad) p.t.length tc, v6] := off_grown HX2.out hgrow3 (fun e => Nat.lt_irrefl _ (Nat.lt_of_lt_of_le hs0 (row_ge HOb.out e))); have HS3 : Hid (w3.cell? ⟨w.heap.size, 0, none⟩ = some (.int .i64 p.n) ∧ w3.cell? ⟨w.heap.size, 1, none⟩ = some (v1) ∧ w3.cell? ⟨w.heap.size, 2, none⟩ = some (.int .i64 p.st.q) ∧ w3.cell? ⟨w.heap.size, 3, none⟩ = some (.int .i64 p.st.d) ∧ w3.cell? ⟨w.heap.size, 4, none⟩ = some (v4) ∧ w3.cell? ⟨w.heap.size, 5, none⟩ = some (.slice (some ad) p.t.length tc) ∧ w3.cell? ⟨w.heap.size, 6, none⟩ = some (v6)) := ⟨HX3.cell (i := 0) rfl, HX3.cell (i := 1) rfl, HX3.cell (i := 2) rfl, HX3.cell (i := 3) rfl, HX3.cell (i := 4) rfl, HX3.cell (i := 5) rfl, HX3.cell (i := 6) rfl⟩; clear hown3 hgrow3 HX3))
    go_wp2
    go_ret
    exact ⟨_, rfl, by unfold OwnR Pa.all; rw [cellsL_append, List.length_append]; exact HO3.out, HB3.out⟩
end Go.Proofs.Ytglmdocokfnmcaa
