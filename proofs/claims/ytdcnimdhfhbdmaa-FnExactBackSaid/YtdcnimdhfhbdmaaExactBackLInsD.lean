/- The specification's l1insert: the row that comes out is one's own. -/
import Derived.Test.YtdcnimdhfhbdmaaExactBackG08
import Derived.Test.YtdcnimdhfhbdmaaExactBackG02
import Derived.Test.YtdcnimdhfhbdmaaExactBackG12
import Derived.Laws.AppendOwnNone
namespace Go.Proofs.Ytdcnimdhfhbdmaa
open Go.RowKit
def InsAt (l : List Ev) (e : Ev) (p : Nat) : Prop := p ≤ l.length ∧ (∀ j, j < p → (evAt l j).cmp e < 0) ∧ (p < l.length → ¬ (evAt l p).cmp e < 0)
theorem Ev.cs_one (e : Ev) : ∀ u ∈ e.cs, u.oneCell' = true := by
  intro u h
  simp [Ev.cs] at h
  rcases h with rfl | rfl | rfl | rfl | rfl | rfl | rfl <;> rfl
theorem Ev.In.cells {w : World} {b : Nat} {e : Ev} (h : Ev.In w b 0 e) : ∀ j u, e.cs[j]? = some u → w.cell? ((⟨b, 0, none⟩ : Addr).add j) = some u := fun j u hu => by
  rw [addr_add]; exact h.get hu
theorem newE (w : World) (e : Ev) : Ev.In (w.alloc (.cells #[.int .i64 e.t, .int .i64 e.s, .int .i64 e.q, .int .i64 e.d, .int .i64 e.k, .int .i64 e.v, .int .i64 e.g] 40)) w.heap.size 0 e := EvAt.new _ _ _ _ _ _ _ _ _

theorem newED (w : World) (e : Ev) : Ev.In (w.alloc (.cells #[.int .i64 e.t, .int .i64 e.s, .int .i64 e.q, .int .i64 e.d, .int .i64 e.k, .int .i64 e.v, .int .i64 e.g] 40)).drew w.heap.size 0 e := ⟨(newE w e).f0, (newE w e).f1, (newE w e).f2, (newE w e).f3, (newE w e).f4, (newE w e).f5, (newE w e).f6⟩
theorem grow_drew {w w' : World} {row : Option Nat} (h : w.drew.grownBy w' row) : w.grownBy w' row := ⟨h.os, h.tape, h.output, h.size, h.block⟩
theorem rowE1 (w : World) : (w.alloc (.cells #[] 40)).drew.ownsRow w.heap.size 40 7 (.slice (some ⟨w.heap.size, 0, none⟩) 0 0) 0 [] := row_empty w
theorem rowE2 (w : World) (o : Obj) : ((w.alloc (.cells #[] 40)).alloc o).drew.ownsRow w.heap.size 40 7 (.slice (some ⟨w.heap.size, 0, none⟩) 0 0) 0 [] := (row_empty w).alloc o
theorem rowE3 (w : World) (o : Obj) : ((w.alloc o).alloc (.cells #[] 40)).drew.ownsRow w.heap.size 40 7 (.slice (some ⟨w.heap.size + 1, 0, none⟩) 0 0) 0 [] := by
  have h := row_empty (w.alloc o)
  rw [World.size_alloc] at h
  obtain ⟨h1, ⟨h2, _⟩ | ⟨g, cap, cur, h2, h3, h4⟩⟩ := h
  · cases h2
  · exact ⟨h1, .inr ⟨g, cap, cur, h2, by omega, h4⟩⟩
theorem newE2 (w : World) (e : Ev) : Ev.In ((w.alloc (.cells #[] 40)).alloc (.cells #[.int .i64 e.t, .int .i64 e.s, .int .i64 e.q, .int .i64 e.d, .int .i64 e.k, .int .i64 e.v, .int .i64 e.g] 40)).drew (w.heap.size + 1) 0 e := by
  have h := EvAt.new (w.alloc (.cells #[] 40)) 40 e.t e.s e.q e.d e.k e.v e.g
  rw [World.size_alloc] at h
  exact ⟨h.f0, h.f1, h.f2, h.f3, h.f4, h.f5, h.f6⟩
theorem newE3 (w : World) (e : Ev) : Ev.In ((w.alloc (.cells #[.int .i64 e.t, .int .i64 e.s, .int .i64 e.q, .int .i64 e.d, .int .i64 e.k, .int .i64 e.v, .int .i64 e.g] 40)).alloc (.cells #[] 40)).drew w.heap.size 0 e := by
  have h := (EvAt.new w 40 e.t e.s e.q e.d e.k e.v e.g).alloc (by simp) (.cells #[] 40)
  exact ⟨h.f0, h.f1, h.f2, h.f3, h.f4, h.f5, h.f6⟩
theorem EvAt.grown {w w' : World} {row : Option Nat} {b o : Nat} {t s q d k v g : Int} (h : EvAt w b o t s q d k v g) (hg : w.grownBy w' row) (hb : b < w.heap.size) (hr : some b ≠ row) : EvAt w' b o t s q d k v g := by
  have hc : ∀ x, w'.cell? ⟨b, x, none⟩ = w.cell? ⟨b, x, none⟩ := fun x => World.cell?_of_block (w := w) (hg.block b hb hr)
  exact ⟨(hc _).trans h.f0, (hc _).trans h.f1, (hc _).trans h.f2, (hc _).trans h.f3, (hc _).trans h.f4, (hc _).trans h.f5, (hc _).trans h.f6⟩
set_option maxRecDepth 100000 in
set_option maxHeartbeats 4000000 in
theorem insert_row (b off cap : Nat) (l : List Ev) (e : Ev) (w : World) (hcap : l.length ≤ cap) (hl : l.length ≤ 1048576) (hI : EvsAt w b off l) :
    Calls Try.prog 75 #[.slice (some ⟨b, off, none⟩) l.length cap, e.val] w fun r w' => ∃ p x, r = .returned x ∧ InsAt l e p ∧ OwnR w.heap.size w' x (l.take p ++ e :: l.drop p) ∧ Below w.heap.size w w' := by
  obtain ⟨i0, hi, hz0, hz1, hz2⟩ := info_parts info25
  obtain ⟨W0, hW0⟩ : ∃ W0, w.alloc (.cells #[.int .i64 e.t, .int .i64 e.s, .int .i64 e.q, .int .i64 e.d, .int .i64 e.k, .int .i64 e.v, .int .i64 e.g] 40) = W0 := ⟨_, rfl⟩
  have HE0 : Hid (Ev.In W0 w.heap.size 0 e) := by rw [← hW0]; exact EvAt.new _ _ _ _ _ _ _ _ _
  have HB0 : Hid (Below w.heap.size w W0) := by rw [← hW0]; exact (Below.refl _ w).alloc (Nat.le_refl _) _
  have hs0 : W0.heap.size = w.heap.size + 1 := by rw [← hW0]; simp
  have HI0 : Hid (EvsAt W0 b off l) := hI.below HB0.out hI.1
  have hb := hI.1
  clear hI
  go_enter Try.func75, Try.ntmps75
  go_wp2
  clear hW0
  go_loopw [5] (fun i wr => ∃ k : Nat, k ≤ l.length ∧ i = .int .i64 k ∧ Hid (Below W0.heap.size W0 wr) ∧ Hid (∀ j, j < k → (evAt l j).cmp e < 0)) (fun i _ => l.length - (intOf i).toNat)
  case atStart => exact ⟨0, Nat.zero_le _, rfl, Below.refl _ _, fun j hj => by omega⟩
  case round =>
    obtain ⟨k, hk, rfl, HB, HJ⟩ := hrel
    have hsz : W0.heap.size ≤ wr.heap.size := HB.out.size
    have hne : Nonempty (Beyond wr) := ⟨⟨wr, Below.refl _ _⟩⟩
    have HE : Hid (Ev.In wr w.heap.size 0 e) := HE0.out.below HB.out (by omega)
    have HI : Hid (EvsAt wr b off l) := HI0.out.below HB.out (by omega)
    by_cases hlt : k < l.length
    · have hd : decide (k < l.length) = true := by simpa using hlt
      have hkn : (k : Int) < (l.length : Int) := by omega
      obtain ⟨f0, f1, f2, f3, f4, f5, f6⟩ := (HI.out.2 k hlt).beyond (by omega)
      obtain ⟨g0, g1, g2, g3, g4, g5, g6⟩ := HE.out.beyond (by omega)
      simp only [Nat.zero_add] at g0 g1 g2 g3 g4 g5 g6
      generalize hz : (evAt l k).cmp e = z
      have HZ : Hid ((evAt l k).cmp e = z) := hz
      clear hz
      by_cases hzl : z < 0
      · have hdz : decide (z < 0) = true := by simpa using hzl
        go_wp2_with fail
        refine wp_region_beyond (by kernel_rfl) (by kernel_rfl) ?_
        repeat (go_big_quiet_step (first | (go_at_call 61; exact Beyond.of (l1cmp_ev (evAt l k) e z HZ.out _))))
        refine wpQuiet_nil ?_
        rintro w2 ⟨⟨_, hb2⟩, rfl⟩
        clear f0 f1 f2 f3 f4 f5 f6 g0 g1 g2 g3 g4 g5 g6 hne
        go_wp2
        go_roundw
        case rel => exact ⟨k + 1, by omega, by go_num, HB.out.trans (hb2.mono hsz), fun j hj => by
          by_cases ej : j = k
          · subst ej; rw [HZ.out]; exact hzl
          · exact HJ.out j (by omega)⟩
        case measure => simp [intOf]; omega
      · have hdz : decide (z < 0) = false := by simpa using hzl
        go_wp2_with fail
        refine wp_region_beyond (by kernel_rfl) (by kernel_rfl) ?_
        repeat (go_big_quiet_step (first | (go_at_call 61; exact Beyond.of (l1cmp_ev (evAt l k) e z HZ.out _))))
        refine wpQuiet_nil ?_
        rintro w2 ⟨⟨_, hb2⟩, rfl⟩
        clear f0 f1 f2 f3 f4 f5 f6 g0 g1 g2 g3 g4 g5 g6 hne
        go_wp2
        have HB2 : Hid (Below w.heap.size w w2) := HB0.out.trans ((HB.out.trans (hb2.mono hsz)).mono (by omega))
        have hs2 : w.heap.size < w2.heap.size := by have := hb2.size; omega
        have HE2 : Hid (Ev.In w2 w.heap.size 0 e) := HE.out.below hb2 (by omega)
        have HI2 : Hid (EvsAt w2 b off l) := HI.out.below hb2 (by have := HI.out.1; omega)
        have hk2 : (k : Int) ≤ (l.length : Int) := by omega
        have hnk : ¬ cap = k := by omega
        have hk7 : (k : Int) ≤ (cap : Int) := by omega
        have hk8 : (l.length : Int) ≤ (cap : Int) := by omega
        obtain ⟨q0, q1, q2, q3, q4, q5, q6⟩ := HE2.out.lits
        clear hb2 HB HE HI
        go_region_held3 (fun W => W.cell? ⟨w.heap.size, 0, none⟩ = some (.int .i64 e.t) ∧ W.cell? ⟨w.heap.size, 1, none⟩ = some (.int .i64 e.s) ∧ W.cell? ⟨w.heap.size, 2, none⟩ = some (.int .i64 e.q) ∧ W.cell? ⟨w.heap.size, 3, none⟩ = some (.int .i64 e.d) ∧ W.cell? ⟨w.heap.size, 4, none⟩ = some (.int .i64 e.k) ∧ W.cell? ⟨w.heap.size, 5, none⟩ = some (.int .i64 e.v) ∧ W.cell? ⟨w.heap.size, 6, none⟩ = some (.int .i64 e.g)) (go_keep)
          (first
            | (refine step_append_own rfl (.tmp 22) (.tmp 25) 34 rfl w2.heap.size 40 i0 (.agg #[.int .i64 0, .int .i64 0, .int .i64 0, .int .i64 0, .int .i64 0, .int .i64 0, .int .i64 0]) 7 56 Try.underlying34 hi hz0 hz1 hz2 rfl (by decide) (.slice (some ⟨w2.heap.size, 0, none⟩) 0 0) 0 [] rfl (rowE1 w2) ⟨b, off, none⟩ k cap (cellsL (l.take k)) rfl (by rw [cellsL_length, List.length_take]; omega) ((HI2.out.take k).below (Below.alloc (Below.refl w2.heap.size w2) (Nat.le_refl _) (.cells #[] 40)).drew HI2.out.1).cells (cellsL_one _) (by unfold maxLen; omega) (by omega) (by first | (simp; done) | (simp; omega)) ?_; intro v1 w1 hown1 hgrow1; have hE1 : Ev.In w1 w.heap.size 0 e := (HE2.out.below (Below.alloc (Below.refl w2.heap.size w2) (Nat.le_refl _) (.cells #[] 40)).drew (by omega)).grown hgrow1 (by simp; omega) (fun er => by have h9 : w.heap.size = w2.heap.size := Option.some.inj er; omega); obtain ⟨y0, y1, y2, y3, y4, y5, y6⟩ := hE1.lits; have hB1 : Below w2.heap.size w2 w1 := ((Below.alloc (Below.refl w2.heap.size w2) (Nat.le_refl _) (.cells #[] 40)).drew).grown hgrow1 (by first | (simp; done) | (simp; omega)) (fun r er => by cases er; first | (simp; done) | (simp; omega) | omega))
            | (refine step_append_own rfl (.tmp 22) (.tmp 25) 34 rfl w2.heap.size 40 i0 (.agg #[.int .i64 0, .int .i64 0, .int .i64 0, .int .i64 0, .int .i64 0, .int .i64 0, .int .i64 0]) 7 56 Try.underlying34 hi hz0 hz1 hz2 rfl (by decide) (.slice (some ⟨w2.heap.size, 0, none⟩) 0 0) 0 [] rfl (rowE2 w2 (.cells #[.int .i64 e.t, .int .i64 e.s, .int .i64 e.q, .int .i64 e.d, .int .i64 e.k, .int .i64 e.v, .int .i64 e.g] 40)) ⟨b, off, none⟩ k cap (cellsL (l.take k)) rfl (by rw [cellsL_length, List.length_take]; omega) ((HI2.out.take k).below (Below.alloc (Below.alloc (Below.refl w2.heap.size w2) (Nat.le_refl _) (.cells #[] 40)) (by simp) (.cells #[.int .i64 e.t, .int .i64 e.s, .int .i64 e.q, .int .i64 e.d, .int .i64 e.k, .int .i64 e.v, .int .i64 e.g] 40)).drew HI2.out.1).cells (cellsL_one _) (by unfold maxLen; omega) (by omega) (by first | (simp; done) | (simp; omega)) ?_; intro v1 w1 hown1 hgrow1; have hE1 : Ev.In w1 w.heap.size 0 e := (HE2.out.below (Below.alloc (Below.alloc (Below.refl w2.heap.size w2) (Nat.le_refl _) (.cells #[] 40)) (by simp) (.cells #[.int .i64 e.t, .int .i64 e.s, .int .i64 e.q, .int .i64 e.d, .int .i64 e.k, .int .i64 e.v, .int .i64 e.g] 40)).drew (by omega)).grown hgrow1 (by simp; omega) (fun er => by have h9 : w.heap.size = w2.heap.size := Option.some.inj er; omega); obtain ⟨y0, y1, y2, y3, y4, y5, y6⟩ := hE1.lits; have hB1 : Below w2.heap.size w2 w1 := ((Below.alloc (Below.alloc (Below.refl w2.heap.size w2) (Nat.le_refl _) (.cells #[] 40)) (by simp) (.cells #[.int .i64 e.t, .int .i64 e.s, .int .i64 e.q, .int .i64 e.d, .int .i64 e.k, .int .i64 e.v, .int .i64 e.g] 40)).drew).grown hgrow1 (by first | (simp; done) | (simp; omega)) (fun r er => by cases er; first | (simp; done) | (simp; omega) | omega))
            | (refine step_append_own rfl (.tmp 22) (.tmp 25) 34 rfl w2.heap.size 40 i0 (.agg #[.int .i64 0, .int .i64 0, .int .i64 0, .int .i64 0, .int .i64 0, .int .i64 0, .int .i64 0]) 7 56 Try.underlying34 hi hz0 hz1 hz2 rfl (by decide) (.slice (some ⟨w2.heap.size + 1, 0, none⟩) 0 0) 0 [] rfl (rowE3 w2 (.cells #[.int .i64 e.t, .int .i64 e.s, .int .i64 e.q, .int .i64 e.d, .int .i64 e.k, .int .i64 e.v, .int .i64 e.g] 40)) ⟨b, off, none⟩ k cap (cellsL (l.take k)) rfl (by rw [cellsL_length, List.length_take]; omega) ((HI2.out.take k).below (Below.alloc (Below.alloc (Below.refl w2.heap.size w2) (Nat.le_refl _) (.cells #[.int .i64 e.t, .int .i64 e.s, .int .i64 e.q, .int .i64 e.d, .int .i64 e.k, .int .i64 e.v, .int .i64 e.g] 40)) (by simp) (.cells #[] 40)).drew HI2.out.1).cells (cellsL_one _) (by unfold maxLen; omega) (by omega) (by first | (simp; done) | (simp; omega)) ?_; intro v1 w1 hown1 hgrow1; have hE1 : Ev.In w1 w.heap.size 0 e := (HE2.out.below (Below.alloc (Below.alloc (Below.refl w2.heap.size w2) (Nat.le_refl _) (.cells #[.int .i64 e.t, .int .i64 e.s, .int .i64 e.q, .int .i64 e.d, .int .i64 e.k, .int .i64 e.v, .int .i64 e.g] 40)) (by simp) (.cells #[] 40)).drew (by omega)).grown hgrow1 (by simp; omega) (fun er => by have h9 : w.heap.size = w2.heap.size + 1 := Option.some.inj er; omega); obtain ⟨y0, y1, y2, y3, y4, y5, y6⟩ := hE1.lits; have hB1 : Below w2.heap.size w2 w1 := ((Below.alloc (Below.alloc (Below.refl w2.heap.size w2) (Nat.le_refl _) (.cells #[.int .i64 e.t, .int .i64 e.s, .int .i64 e.q, .int .i64 e.d, .int .i64 e.k, .int .i64 e.v, .int .i64 e.g] 40)) (by simp) (.cells #[] 40)).drew).grown hgrow1 (by first | (simp; done) | (simp; omega)) (fun r er => by cases er; first | (simp; done) | (simp; omega) | omega))
            | (refine step_append_own rfl (.tmp 26) (.tmp 28) 34 rfl w2.heap.size 40 i0 (.agg #[.int .i64 0, .int .i64 0, .int .i64 0, .int .i64 0, .int .i64 0, .int .i64 0, .int .i64 0]) 7 56 Try.underlying34 hi hz0 hz1 hz2 rfl (by decide) v1 (0 + k) _ rfl (hown1.alloc _) ⟨w1.heap.size, 0, none⟩ 1 1 e.cs rfl rfl (Ev.In.cells (EvAt.new _ _ _ _ _ _ _ _ _)) (Ev.cs_one e) (by unfold maxLen; omega) (by omega) (by have := hB1.size; simp; omega) ?_; intro v2 w3 hown2 hgrow2; have hE2 : Ev.In w3 w.heap.size 0 e := (hE1.alloc (by have := hB1.size; omega) _).grown hgrow2 (by have := hB1.size; simp; omega) (fun er => by have := row_ge hown1 er.symm; omega); obtain ⟨x0, x1, x2, x3, x4, x5, x6⟩ := hE2.lits; have hB3 : Below w2.heap.size w2 w3 := (hB1.alloc hB1.size _).grown hgrow2 (by have := hB1.size; simp; omega) (fun r er => row_ge hown1 er); have HO3 : Hid (w3.ownsRow w2.heap.size 40 7 v2 (0 + k + 1) ([] ++ cellsL (l.take k) ++ e.cs)) := hown2)
            | (refine step_append_own rfl (.tmp 26) (.tmp 28) 34 rfl w2.heap.size 40 i0 (.agg #[.int .i64 0, .int .i64 0, .int .i64 0, .int .i64 0, .int .i64 0, .int .i64 0, .int .i64 0]) 7 56 Try.underlying34 hi hz0 hz1 hz2 rfl (by decide) v1 (0 + k) _ rfl hown1 ⟨w2.heap.size + 1, 0, none⟩ 1 1 e.cs rfl rfl (Ev.In.cells ((newE2 w2 e).grown hgrow1 (by simp) (fun er => by have h9 : w2.heap.size + 1 = w2.heap.size := Option.some.inj er; omega))) (Ev.cs_one e) (by unfold maxLen; omega) (by omega) (by have := hB1.size; simp; omega) ?_; intro v2 w3 hown2 hgrow2; have hE2 : Ev.In w3 w.heap.size 0 e := hE1.grown hgrow2 (by have := hB1.size; omega) (fun er => by have := row_ge hown1 er.symm; omega); obtain ⟨x0, x1, x2, x3, x4, x5, x6⟩ := hE2.lits; have hB3 : Below w2.heap.size w2 w3 := hB1.grown hgrow2 hB1.size (fun r er => row_ge hown1 er); have HO3 : Hid (w3.ownsRow w2.heap.size 40 7 v2 (0 + k + 1) ([] ++ cellsL (l.take k) ++ e.cs)) := hown2)
            | (refine step_append_own rfl (.tmp 26) (.tmp 28) 34 rfl w2.heap.size 40 i0 (.agg #[.int .i64 0, .int .i64 0, .int .i64 0, .int .i64 0, .int .i64 0, .int .i64 0, .int .i64 0]) 7 56 Try.underlying34 hi hz0 hz1 hz2 rfl (by decide) v1 (0 + k) _ rfl hown1 ⟨w2.heap.size, 0, none⟩ 1 1 e.cs rfl rfl (Ev.In.cells ((newE3 w2 e).grown hgrow1 (by simp; omega) (fun er => by have h9 : w2.heap.size = w2.heap.size + 1 := Option.some.inj er; omega))) (Ev.cs_one e) (by unfold maxLen; omega) (by omega) (by have := hB1.size; simp; omega) ?_; intro v2 w3 hown2 hgrow2; have hE2 : Ev.In w3 w.heap.size 0 e := hE1.grown hgrow2 (by have := hB1.size; omega) (fun er => by have := row_ge hown1 er.symm; omega); obtain ⟨x0, x1, x2, x3, x4, x5, x6⟩ := hE2.lits; have hB3 : Below w2.heap.size w2 w3 := hB1.grown hgrow2 hB1.size (fun r er => row_ge hown1 er); have HO3 : Hid (w3.ownsRow w2.heap.size 40 7 v2 (0 + k + 1) ([] ++ cellsL (l.take k) ++ e.cs)) := hown2))
        all_goals
          clear hE1 hE2 y0 y1 y2 y3 y4 y5 y6 x0 x1 x2 x3 x4 x5 x6 hown1 hgrow1 hown2 hgrow2
          go_wp2_with (at_builtin; refine wpList_append_own _ rfl _ _ 34 rfl w2.heap.size 40 i0 (.agg #[.int .i64 0, .int .i64 0, .int .i64 0, .int .i64 0, .int .i64 0, .int .i64 0, .int .i64 0]) 7 56 Try.underlying34 hi hz0 hz1 hz2 rfl (by decide) v2 (0 + k + 1) _ rfl HO3.out ⟨b, off + k * 7, none⟩ (l.length - k) (cap - k) (cellsL (l.drop k)) rfl (by rw [cellsL_length, List.length_drop]) ((HI2.out.drop k).below hB3 HI2.out.1).cells (cellsL_one _) (by unfold maxLen; omega) (by omega) hB3.size ?_; intro v3 w4 hown3 hgrow3 _)
          go_ret
          refine ⟨k, v3, rfl, ⟨hk, HJ.out, fun _ => by rw [HZ.out]; omega⟩, OwnR.mono (show OwnR w2.heap.size _ _ _ from ?_) (Nat.le_of_lt hs2), HB2.out.trans ((hB3.grown hgrow3 hB3.size (fun r er => row_ge HO3.out er)).mono (Nat.le_of_lt hs2))⟩
          have hlen : (l.take k ++ e :: l.drop k).length = 0 + k + 1 + (l.length - k) := by simp; omega
          unfold OwnR
          rw [hlen, cellsL_append]
          show World.ownsRow _ _ _ _ _ _ (cellsL (l.take k) ++ (e.cs ++ cellsL (l.drop k)))
          rw [← List.append_assoc]
          simpa using hown3
    · obtain rfl : k = l.length := by omega
      have hd : decide (l.length < l.length) = false := by simp
      have hd2 : ¬ ((l.length : Int) < (l.length : Int)) := by omega
      go_wp2_with fail
      refine wp_region_beyond (by kernel_rfl) (by kernel_rfl) ?_
      repeat (go_big_quiet_step (fail))
      refine wpQuiet_nil ?_
      rintro w2 ⟨⟨_, hb2⟩, rfl⟩
      clear hne
      go_wp2
      have HB2 : Hid (Below w.heap.size w w2) := HB0.out.trans ((HB.out.trans (hb2.mono hsz)).mono (by omega))
      have hs2 : w.heap.size < w2.heap.size := by have := hb2.size; omega
      have HE2 : Hid (Ev.In w2 w.heap.size 0 e) := HE.out.below hb2 (by omega)
      have HI2 : Hid (EvsAt w2 b off l) := HI.out.below hb2 (by have := HI.out.1; omega)
      have hk8 : (l.length : Int) ≤ (cap : Int) := by omega
      by_cases hcl : cap = l.length
      · subst hcl
        have hk2 : (l.length : Int) ≤ (l.length : Int) := by omega
        obtain ⟨q0, q1, q2, q3, q4, q5, q6⟩ := HE2.out.lits
        clear hb2 HB HE HI
        go_region_held3 (fun W => W.cell? ⟨w.heap.size, 0, none⟩ = some (.int .i64 e.t) ∧ W.cell? ⟨w.heap.size, 1, none⟩ = some (.int .i64 e.s) ∧ W.cell? ⟨w.heap.size, 2, none⟩ = some (.int .i64 e.q) ∧ W.cell? ⟨w.heap.size, 3, none⟩ = some (.int .i64 e.d) ∧ W.cell? ⟨w.heap.size, 4, none⟩ = some (.int .i64 e.k) ∧ W.cell? ⟨w.heap.size, 5, none⟩ = some (.int .i64 e.v) ∧ W.cell? ⟨w.heap.size, 6, none⟩ = some (.int .i64 e.g)) (go_keep)
          (first
            | (refine step_append_own rfl (.tmp 22) (.tmp 25) 34 rfl w2.heap.size 40 i0 (.agg #[.int .i64 0, .int .i64 0, .int .i64 0, .int .i64 0, .int .i64 0, .int .i64 0, .int .i64 0]) 7 56 Try.underlying34 hi hz0 hz1 hz2 rfl (by decide) (.slice (some ⟨w2.heap.size, 0, none⟩) 0 0) 0 [] rfl (rowE1 w2) ⟨b, off, none⟩ l.length l.length (cellsL (l.take l.length)) rfl (by rw [cellsL_length, List.length_take]; omega) ((HI2.out.take l.length).below (Below.alloc (Below.refl w2.heap.size w2) (Nat.le_refl _) (.cells #[] 40)).drew HI2.out.1).cells (cellsL_one _) (by unfold maxLen; omega) (by omega) (by first | (simp; done) | (simp; omega)) ?_; intro v1 w1 hown1 hgrow1; have hE1 : Ev.In w1 w.heap.size 0 e := (HE2.out.below (Below.alloc (Below.refl w2.heap.size w2) (Nat.le_refl _) (.cells #[] 40)).drew (by omega)).grown hgrow1 (by simp; omega) (fun er => by have h9 : w.heap.size = w2.heap.size := Option.some.inj er; omega); obtain ⟨y0, y1, y2, y3, y4, y5, y6⟩ := hE1.lits; have hB1 : Below w2.heap.size w2 w1 := ((Below.alloc (Below.refl w2.heap.size w2) (Nat.le_refl _) (.cells #[] 40)).drew).grown hgrow1 (by first | (simp; done) | (simp; omega)) (fun r er => by cases er; first | (simp; done) | (simp; omega) | omega))
            | (refine step_append_own rfl (.tmp 22) (.tmp 25) 34 rfl w2.heap.size 40 i0 (.agg #[.int .i64 0, .int .i64 0, .int .i64 0, .int .i64 0, .int .i64 0, .int .i64 0, .int .i64 0]) 7 56 Try.underlying34 hi hz0 hz1 hz2 rfl (by decide) (.slice (some ⟨w2.heap.size, 0, none⟩) 0 0) 0 [] rfl (rowE2 w2 (.cells #[.int .i64 e.t, .int .i64 e.s, .int .i64 e.q, .int .i64 e.d, .int .i64 e.k, .int .i64 e.v, .int .i64 e.g] 40)) ⟨b, off, none⟩ l.length l.length (cellsL (l.take l.length)) rfl (by rw [cellsL_length, List.length_take]; omega) ((HI2.out.take l.length).below (Below.alloc (Below.alloc (Below.refl w2.heap.size w2) (Nat.le_refl _) (.cells #[] 40)) (by simp) (.cells #[.int .i64 e.t, .int .i64 e.s, .int .i64 e.q, .int .i64 e.d, .int .i64 e.k, .int .i64 e.v, .int .i64 e.g] 40)).drew HI2.out.1).cells (cellsL_one _) (by unfold maxLen; omega) (by omega) (by first | (simp; done) | (simp; omega)) ?_; intro v1 w1 hown1 hgrow1; have hE1 : Ev.In w1 w.heap.size 0 e := (HE2.out.below (Below.alloc (Below.alloc (Below.refl w2.heap.size w2) (Nat.le_refl _) (.cells #[] 40)) (by simp) (.cells #[.int .i64 e.t, .int .i64 e.s, .int .i64 e.q, .int .i64 e.d, .int .i64 e.k, .int .i64 e.v, .int .i64 e.g] 40)).drew (by omega)).grown hgrow1 (by simp; omega) (fun er => by have h9 : w.heap.size = w2.heap.size := Option.some.inj er; omega); obtain ⟨y0, y1, y2, y3, y4, y5, y6⟩ := hE1.lits; have hB1 : Below w2.heap.size w2 w1 := ((Below.alloc (Below.alloc (Below.refl w2.heap.size w2) (Nat.le_refl _) (.cells #[] 40)) (by simp) (.cells #[.int .i64 e.t, .int .i64 e.s, .int .i64 e.q, .int .i64 e.d, .int .i64 e.k, .int .i64 e.v, .int .i64 e.g] 40)).drew).grown hgrow1 (by first | (simp; done) | (simp; omega)) (fun r er => by cases er; first | (simp; done) | (simp; omega) | omega))
            | (refine step_append_own rfl (.tmp 22) (.tmp 25) 34 rfl w2.heap.size 40 i0 (.agg #[.int .i64 0, .int .i64 0, .int .i64 0, .int .i64 0, .int .i64 0, .int .i64 0, .int .i64 0]) 7 56 Try.underlying34 hi hz0 hz1 hz2 rfl (by decide) (.slice (some ⟨w2.heap.size + 1, 0, none⟩) 0 0) 0 [] rfl (rowE3 w2 (.cells #[.int .i64 e.t, .int .i64 e.s, .int .i64 e.q, .int .i64 e.d, .int .i64 e.k, .int .i64 e.v, .int .i64 e.g] 40)) ⟨b, off, none⟩ l.length l.length (cellsL (l.take l.length)) rfl (by rw [cellsL_length, List.length_take]; omega) ((HI2.out.take l.length).below (Below.alloc (Below.alloc (Below.refl w2.heap.size w2) (Nat.le_refl _) (.cells #[.int .i64 e.t, .int .i64 e.s, .int .i64 e.q, .int .i64 e.d, .int .i64 e.k, .int .i64 e.v, .int .i64 e.g] 40)) (by simp) (.cells #[] 40)).drew HI2.out.1).cells (cellsL_one _) (by unfold maxLen; omega) (by omega) (by first | (simp; done) | (simp; omega)) ?_; intro v1 w1 hown1 hgrow1; have hE1 : Ev.In w1 w.heap.size 0 e := (HE2.out.below (Below.alloc (Below.alloc (Below.refl w2.heap.size w2) (Nat.le_refl _) (.cells #[.int .i64 e.t, .int .i64 e.s, .int .i64 e.q, .int .i64 e.d, .int .i64 e.k, .int .i64 e.v, .int .i64 e.g] 40)) (by simp) (.cells #[] 40)).drew (by omega)).grown hgrow1 (by simp; omega) (fun er => by have h9 : w.heap.size = w2.heap.size + 1 := Option.some.inj er; omega); obtain ⟨y0, y1, y2, y3, y4, y5, y6⟩ := hE1.lits; have hB1 : Below w2.heap.size w2 w1 := ((Below.alloc (Below.alloc (Below.refl w2.heap.size w2) (Nat.le_refl _) (.cells #[.int .i64 e.t, .int .i64 e.s, .int .i64 e.q, .int .i64 e.d, .int .i64 e.k, .int .i64 e.v, .int .i64 e.g] 40)) (by simp) (.cells #[] 40)).drew).grown hgrow1 (by first | (simp; done) | (simp; omega)) (fun r er => by cases er; first | (simp; done) | (simp; omega) | omega))
            | (refine step_append_own rfl (.tmp 26) (.tmp 28) 34 rfl w2.heap.size 40 i0 (.agg #[.int .i64 0, .int .i64 0, .int .i64 0, .int .i64 0, .int .i64 0, .int .i64 0, .int .i64 0]) 7 56 Try.underlying34 hi hz0 hz1 hz2 rfl (by decide) v1 (0 + l.length) _ rfl (hown1.alloc _) ⟨w1.heap.size, 0, none⟩ 1 1 e.cs rfl rfl (Ev.In.cells (EvAt.new _ _ _ _ _ _ _ _ _)) (Ev.cs_one e) (by unfold maxLen; omega) (by omega) (by have := hB1.size; simp; omega) ?_; intro v2 w3 hown2 hgrow2; have hE2 : Ev.In w3 w.heap.size 0 e := (hE1.alloc (by have := hB1.size; omega) _).grown hgrow2 (by have := hB1.size; simp; omega) (fun er => by have := row_ge hown1 er.symm; omega); obtain ⟨x0, x1, x2, x3, x4, x5, x6⟩ := hE2.lits; have hB3 : Below w2.heap.size w2 w3 := (hB1.alloc hB1.size _).grown hgrow2 (by have := hB1.size; simp; omega) (fun r er => row_ge hown1 er); have HO3 : Hid (w3.ownsRow w2.heap.size 40 7 v2 (0 + l.length + 1) ([] ++ cellsL (l.take l.length) ++ e.cs)) := hown2)
            | (refine step_append_own rfl (.tmp 26) (.tmp 28) 34 rfl w2.heap.size 40 i0 (.agg #[.int .i64 0, .int .i64 0, .int .i64 0, .int .i64 0, .int .i64 0, .int .i64 0, .int .i64 0]) 7 56 Try.underlying34 hi hz0 hz1 hz2 rfl (by decide) v1 (0 + l.length) _ rfl hown1 ⟨w2.heap.size + 1, 0, none⟩ 1 1 e.cs rfl rfl (Ev.In.cells ((newE2 w2 e).grown hgrow1 (by simp) (fun er => by have h9 : w2.heap.size + 1 = w2.heap.size := Option.some.inj er; omega))) (Ev.cs_one e) (by unfold maxLen; omega) (by omega) (by have := hB1.size; simp; omega) ?_; intro v2 w3 hown2 hgrow2; have hE2 : Ev.In w3 w.heap.size 0 e := hE1.grown hgrow2 (by have := hB1.size; omega) (fun er => by have := row_ge hown1 er.symm; omega); obtain ⟨x0, x1, x2, x3, x4, x5, x6⟩ := hE2.lits; have hB3 : Below w2.heap.size w2 w3 := hB1.grown hgrow2 hB1.size (fun r er => row_ge hown1 er); have HO3 : Hid (w3.ownsRow w2.heap.size 40 7 v2 (0 + l.length + 1) ([] ++ cellsL (l.take l.length) ++ e.cs)) := hown2)
            | (refine step_append_own rfl (.tmp 26) (.tmp 28) 34 rfl w2.heap.size 40 i0 (.agg #[.int .i64 0, .int .i64 0, .int .i64 0, .int .i64 0, .int .i64 0, .int .i64 0, .int .i64 0]) 7 56 Try.underlying34 hi hz0 hz1 hz2 rfl (by decide) v1 (0 + l.length) _ rfl hown1 ⟨w2.heap.size, 0, none⟩ 1 1 e.cs rfl rfl (Ev.In.cells ((newE3 w2 e).grown hgrow1 (by simp; omega) (fun er => by have h9 : w2.heap.size = w2.heap.size + 1 := Option.some.inj er; omega))) (Ev.cs_one e) (by unfold maxLen; omega) (by omega) (by have := hB1.size; simp; omega) ?_; intro v2 w3 hown2 hgrow2; have hE2 : Ev.In w3 w.heap.size 0 e := hE1.grown hgrow2 (by have := hB1.size; omega) (fun er => by have := row_ge hown1 er.symm; omega); obtain ⟨x0, x1, x2, x3, x4, x5, x6⟩ := hE2.lits; have hB3 : Below w2.heap.size w2 w3 := hB1.grown hgrow2 hB1.size (fun r er => row_ge hown1 er); have HO3 : Hid (w3.ownsRow w2.heap.size 40 7 v2 (0 + l.length + 1) ([] ++ cellsL (l.take l.length) ++ e.cs)) := hown2))
        all_goals
          clear hE1 hE2 y0 y1 y2 y3 y4 y5 y6 x0 x1 x2 x3 x4 x5 x6 hown1 hgrow1 hown2 hgrow2
          go_wp2_with (at_builtin; refine wpList_append_own _ rfl _ _ 34 rfl w2.heap.size 40 i0 (.agg #[.int .i64 0, .int .i64 0, .int .i64 0, .int .i64 0, .int .i64 0, .int .i64 0, .int .i64 0]) 7 56 Try.underlying34 hi hz0 hz1 hz2 rfl (by decide) v2 (0 + l.length + 1) _ rfl HO3.out ⟨b, off, none⟩ 0 0 [] rfl rfl (fun j u hu => by cases hu) (fun u hu => by cases hu) (by unfold maxLen; omega) (by omega) hB3.size ?_; intro v3 w4 hown3 hgrow3 _)
          go_ret
          refine ⟨l.length, v3, rfl, ⟨hk, HJ.out, fun h => absurd h (Nat.lt_irrefl _)⟩, OwnR.mono (show OwnR w2.heap.size _ _ _ from ?_) (Nat.le_of_lt hs2), HB2.out.trans ((hB3.grown hgrow3 hB3.size (fun r er => row_ge HO3.out er)).mono (Nat.le_of_lt hs2))⟩
          have hlen : (l.take l.length ++ e :: l.drop l.length).length = 0 + l.length + 1 + 0 := by simp
          unfold OwnR
          rw [hlen, cellsL_append]
          show World.ownsRow _ _ _ _ _ _ (cellsL (l.take l.length) ++ (e.cs ++ cellsL (l.drop l.length)))
          rw [← List.append_assoc, List.drop_length]
          simpa [cellsL] using hown3
      · have hcl' : ¬ cap - l.length = 0 := by omega
        have hk2 : (l.length : Int) ≤ (l.length : Int) := by omega
        obtain ⟨q0, q1, q2, q3, q4, q5, q6⟩ := HE2.out.lits
        clear hb2 HB HE HI
        go_region_held3 (fun W => W.cell? ⟨w.heap.size, 0, none⟩ = some (.int .i64 e.t) ∧ W.cell? ⟨w.heap.size, 1, none⟩ = some (.int .i64 e.s) ∧ W.cell? ⟨w.heap.size, 2, none⟩ = some (.int .i64 e.q) ∧ W.cell? ⟨w.heap.size, 3, none⟩ = some (.int .i64 e.d) ∧ W.cell? ⟨w.heap.size, 4, none⟩ = some (.int .i64 e.k) ∧ W.cell? ⟨w.heap.size, 5, none⟩ = some (.int .i64 e.v) ∧ W.cell? ⟨w.heap.size, 6, none⟩ = some (.int .i64 e.g)) (go_keep)
          (first
            | (refine step_append_own rfl (.tmp 22) (.tmp 25) 34 rfl w2.heap.size 40 i0 (.agg #[.int .i64 0, .int .i64 0, .int .i64 0, .int .i64 0, .int .i64 0, .int .i64 0, .int .i64 0]) 7 56 Try.underlying34 hi hz0 hz1 hz2 rfl (by decide) (.slice (some ⟨w2.heap.size, 0, none⟩) 0 0) 0 [] rfl (rowE1 w2) ⟨b, off, none⟩ l.length cap (cellsL (l.take l.length)) rfl (by rw [cellsL_length, List.length_take]; omega) ((HI2.out.take l.length).below (Below.alloc (Below.refl w2.heap.size w2) (Nat.le_refl _) (.cells #[] 40)).drew HI2.out.1).cells (cellsL_one _) (by unfold maxLen; omega) (by omega) (by first | (simp; done) | (simp; omega)) ?_; intro v1 w1 hown1 hgrow1; have hE1 : Ev.In w1 w.heap.size 0 e := (HE2.out.below (Below.alloc (Below.refl w2.heap.size w2) (Nat.le_refl _) (.cells #[] 40)).drew (by omega)).grown hgrow1 (by simp; omega) (fun er => by have h9 : w.heap.size = w2.heap.size := Option.some.inj er; omega); obtain ⟨y0, y1, y2, y3, y4, y5, y6⟩ := hE1.lits; have hB1 : Below w2.heap.size w2 w1 := ((Below.alloc (Below.refl w2.heap.size w2) (Nat.le_refl _) (.cells #[] 40)).drew).grown hgrow1 (by first | (simp; done) | (simp; omega)) (fun r er => by cases er; first | (simp; done) | (simp; omega) | omega))
            | (refine step_append_own rfl (.tmp 22) (.tmp 25) 34 rfl w2.heap.size 40 i0 (.agg #[.int .i64 0, .int .i64 0, .int .i64 0, .int .i64 0, .int .i64 0, .int .i64 0, .int .i64 0]) 7 56 Try.underlying34 hi hz0 hz1 hz2 rfl (by decide) (.slice (some ⟨w2.heap.size, 0, none⟩) 0 0) 0 [] rfl (rowE2 w2 (.cells #[.int .i64 e.t, .int .i64 e.s, .int .i64 e.q, .int .i64 e.d, .int .i64 e.k, .int .i64 e.v, .int .i64 e.g] 40)) ⟨b, off, none⟩ l.length cap (cellsL (l.take l.length)) rfl (by rw [cellsL_length, List.length_take]; omega) ((HI2.out.take l.length).below (Below.alloc (Below.alloc (Below.refl w2.heap.size w2) (Nat.le_refl _) (.cells #[] 40)) (by simp) (.cells #[.int .i64 e.t, .int .i64 e.s, .int .i64 e.q, .int .i64 e.d, .int .i64 e.k, .int .i64 e.v, .int .i64 e.g] 40)).drew HI2.out.1).cells (cellsL_one _) (by unfold maxLen; omega) (by omega) (by first | (simp; done) | (simp; omega)) ?_; intro v1 w1 hown1 hgrow1; have hE1 : Ev.In w1 w.heap.size 0 e := (HE2.out.below (Below.alloc (Below.alloc (Below.refl w2.heap.size w2) (Nat.le_refl _) (.cells #[] 40)) (by simp) (.cells #[.int .i64 e.t, .int .i64 e.s, .int .i64 e.q, .int .i64 e.d, .int .i64 e.k, .int .i64 e.v, .int .i64 e.g] 40)).drew (by omega)).grown hgrow1 (by simp; omega) (fun er => by have h9 : w.heap.size = w2.heap.size := Option.some.inj er; omega); obtain ⟨y0, y1, y2, y3, y4, y5, y6⟩ := hE1.lits; have hB1 : Below w2.heap.size w2 w1 := ((Below.alloc (Below.alloc (Below.refl w2.heap.size w2) (Nat.le_refl _) (.cells #[] 40)) (by simp) (.cells #[.int .i64 e.t, .int .i64 e.s, .int .i64 e.q, .int .i64 e.d, .int .i64 e.k, .int .i64 e.v, .int .i64 e.g] 40)).drew).grown hgrow1 (by first | (simp; done) | (simp; omega)) (fun r er => by cases er; first | (simp; done) | (simp; omega) | omega))
            | (refine step_append_own rfl (.tmp 22) (.tmp 25) 34 rfl w2.heap.size 40 i0 (.agg #[.int .i64 0, .int .i64 0, .int .i64 0, .int .i64 0, .int .i64 0, .int .i64 0, .int .i64 0]) 7 56 Try.underlying34 hi hz0 hz1 hz2 rfl (by decide) (.slice (some ⟨w2.heap.size + 1, 0, none⟩) 0 0) 0 [] rfl (rowE3 w2 (.cells #[.int .i64 e.t, .int .i64 e.s, .int .i64 e.q, .int .i64 e.d, .int .i64 e.k, .int .i64 e.v, .int .i64 e.g] 40)) ⟨b, off, none⟩ l.length cap (cellsL (l.take l.length)) rfl (by rw [cellsL_length, List.length_take]; omega) ((HI2.out.take l.length).below (Below.alloc (Below.alloc (Below.refl w2.heap.size w2) (Nat.le_refl _) (.cells #[.int .i64 e.t, .int .i64 e.s, .int .i64 e.q, .int .i64 e.d, .int .i64 e.k, .int .i64 e.v, .int .i64 e.g] 40)) (by simp) (.cells #[] 40)).drew HI2.out.1).cells (cellsL_one _) (by unfold maxLen; omega) (by omega) (by first | (simp; done) | (simp; omega)) ?_; intro v1 w1 hown1 hgrow1; have hE1 : Ev.In w1 w.heap.size 0 e := (HE2.out.below (Below.alloc (Below.alloc (Below.refl w2.heap.size w2) (Nat.le_refl _) (.cells #[.int .i64 e.t, .int .i64 e.s, .int .i64 e.q, .int .i64 e.d, .int .i64 e.k, .int .i64 e.v, .int .i64 e.g] 40)) (by simp) (.cells #[] 40)).drew (by omega)).grown hgrow1 (by simp; omega) (fun er => by have h9 : w.heap.size = w2.heap.size + 1 := Option.some.inj er; omega); obtain ⟨y0, y1, y2, y3, y4, y5, y6⟩ := hE1.lits; have hB1 : Below w2.heap.size w2 w1 := ((Below.alloc (Below.alloc (Below.refl w2.heap.size w2) (Nat.le_refl _) (.cells #[.int .i64 e.t, .int .i64 e.s, .int .i64 e.q, .int .i64 e.d, .int .i64 e.k, .int .i64 e.v, .int .i64 e.g] 40)) (by simp) (.cells #[] 40)).drew).grown hgrow1 (by first | (simp; done) | (simp; omega)) (fun r er => by cases er; first | (simp; done) | (simp; omega) | omega))
            | (refine step_append_own rfl (.tmp 26) (.tmp 28) 34 rfl w2.heap.size 40 i0 (.agg #[.int .i64 0, .int .i64 0, .int .i64 0, .int .i64 0, .int .i64 0, .int .i64 0, .int .i64 0]) 7 56 Try.underlying34 hi hz0 hz1 hz2 rfl (by decide) v1 (0 + l.length) _ rfl (hown1.alloc _) ⟨w1.heap.size, 0, none⟩ 1 1 e.cs rfl rfl (Ev.In.cells (EvAt.new _ _ _ _ _ _ _ _ _)) (Ev.cs_one e) (by unfold maxLen; omega) (by omega) (by have := hB1.size; simp; omega) ?_; intro v2 w3 hown2 hgrow2; have hE2 : Ev.In w3 w.heap.size 0 e := (hE1.alloc (by have := hB1.size; omega) _).grown hgrow2 (by have := hB1.size; simp; omega) (fun er => by have := row_ge hown1 er.symm; omega); obtain ⟨x0, x1, x2, x3, x4, x5, x6⟩ := hE2.lits; have hB3 : Below w2.heap.size w2 w3 := (hB1.alloc hB1.size _).grown hgrow2 (by have := hB1.size; simp; omega) (fun r er => row_ge hown1 er); have HO3 : Hid (w3.ownsRow w2.heap.size 40 7 v2 (0 + l.length + 1) ([] ++ cellsL (l.take l.length) ++ e.cs)) := hown2)
            | (refine step_append_own rfl (.tmp 26) (.tmp 28) 34 rfl w2.heap.size 40 i0 (.agg #[.int .i64 0, .int .i64 0, .int .i64 0, .int .i64 0, .int .i64 0, .int .i64 0, .int .i64 0]) 7 56 Try.underlying34 hi hz0 hz1 hz2 rfl (by decide) v1 (0 + l.length) _ rfl hown1 ⟨w2.heap.size + 1, 0, none⟩ 1 1 e.cs rfl rfl (Ev.In.cells ((newE2 w2 e).grown hgrow1 (by simp) (fun er => by have h9 : w2.heap.size + 1 = w2.heap.size := Option.some.inj er; omega))) (Ev.cs_one e) (by unfold maxLen; omega) (by omega) (by have := hB1.size; simp; omega) ?_; intro v2 w3 hown2 hgrow2; have hE2 : Ev.In w3 w.heap.size 0 e := hE1.grown hgrow2 (by have := hB1.size; omega) (fun er => by have := row_ge hown1 er.symm; omega); obtain ⟨x0, x1, x2, x3, x4, x5, x6⟩ := hE2.lits; have hB3 : Below w2.heap.size w2 w3 := hB1.grown hgrow2 hB1.size (fun r er => row_ge hown1 er); have HO3 : Hid (w3.ownsRow w2.heap.size 40 7 v2 (0 + l.length + 1) ([] ++ cellsL (l.take l.length) ++ e.cs)) := hown2)
            | (refine step_append_own rfl (.tmp 26) (.tmp 28) 34 rfl w2.heap.size 40 i0 (.agg #[.int .i64 0, .int .i64 0, .int .i64 0, .int .i64 0, .int .i64 0, .int .i64 0, .int .i64 0]) 7 56 Try.underlying34 hi hz0 hz1 hz2 rfl (by decide) v1 (0 + l.length) _ rfl hown1 ⟨w2.heap.size, 0, none⟩ 1 1 e.cs rfl rfl (Ev.In.cells ((newE3 w2 e).grown hgrow1 (by simp; omega) (fun er => by have h9 : w2.heap.size = w2.heap.size + 1 := Option.some.inj er; omega))) (Ev.cs_one e) (by unfold maxLen; omega) (by omega) (by have := hB1.size; simp; omega) ?_; intro v2 w3 hown2 hgrow2; have hE2 : Ev.In w3 w.heap.size 0 e := hE1.grown hgrow2 (by have := hB1.size; omega) (fun er => by have := row_ge hown1 er.symm; omega); obtain ⟨x0, x1, x2, x3, x4, x5, x6⟩ := hE2.lits; have hB3 : Below w2.heap.size w2 w3 := hB1.grown hgrow2 hB1.size (fun r er => row_ge hown1 er); have HO3 : Hid (w3.ownsRow w2.heap.size 40 7 v2 (0 + l.length + 1) ([] ++ cellsL (l.take l.length) ++ e.cs)) := hown2))
        all_goals
          clear hE1 hE2 y0 y1 y2 y3 y4 y5 y6 x0 x1 x2 x3 x4 x5 x6 hown1 hgrow1 hown2 hgrow2
          go_wp2_with (at_builtin; refine wpList_append_own _ rfl _ _ 34 rfl w2.heap.size 40 i0 (.agg #[.int .i64 0, .int .i64 0, .int .i64 0, .int .i64 0, .int .i64 0, .int .i64 0, .int .i64 0]) 7 56 Try.underlying34 hi hz0 hz1 hz2 rfl (by decide) v2 (0 + l.length + 1) _ rfl HO3.out ⟨b, off + l.length * 7, none⟩ 0 (cap - l.length) [] rfl rfl (fun j u hu => by cases hu) (fun u hu => by cases hu) (by unfold maxLen; omega) (by omega) hB3.size ?_; intro v3 w4 hown3 hgrow3 _)
          go_ret
          refine ⟨l.length, v3, rfl, ⟨hk, HJ.out, fun h => absurd h (Nat.lt_irrefl _)⟩, OwnR.mono (show OwnR w2.heap.size _ _ _ from ?_) (Nat.le_of_lt hs2), HB2.out.trans ((hB3.grown hgrow3 hB3.size (fun r er => row_ge HO3.out er)).mono (Nat.le_of_lt hs2))⟩
          have hlen : (l.take l.length ++ e :: l.drop l.length).length = 0 + l.length + 1 + 0 := by simp
          unfold OwnR
          rw [hlen, cellsL_append]
          show World.ownsRow _ _ _ _ _ _ (cellsL (l.take l.length) ++ (e.cs ++ cellsL (l.drop l.length)))
          rw [← List.append_assoc, List.drop_length]
          simpa [cellsL] using hown3
set_option maxRecDepth 100000 in
set_option maxHeartbeats 4000000 in
theorem insert_nil_row (e : Ev) (w : World) :
    Calls Try.prog 75 #[.slice none 0 0, e.val] w fun r w' => ∃ x, r = .returned x ∧ OwnR w.heap.size w' x [e] ∧ Below w.heap.size w w' := by
  obtain ⟨i0, hi, hz0, hz1, hz2⟩ := info_parts info25
  obtain ⟨W0, hW0⟩ : ∃ W0, w.alloc (.cells #[.int .i64 e.t, .int .i64 e.s, .int .i64 e.q, .int .i64 e.d, .int .i64 e.k, .int .i64 e.v, .int .i64 e.g] 40) = W0 := ⟨_, rfl⟩
  have HE0 : Hid (Ev.In W0 w.heap.size 0 e) := by rw [← hW0]; exact EvAt.new _ _ _ _ _ _ _ _ _
  have HB0 : Hid (Below w.heap.size w W0) := by rw [← hW0]; exact (Below.refl _ w).alloc (Nat.le_refl _) _
  have hs0 : W0.heap.size = w.heap.size + 1 := by rw [← hW0]; simp
  go_enter Try.func75, Try.ntmps75
  go_wp2
  clear hW0
  go_loopw [5] (fun i wr => i = .int .i64 0 ∧ wr = W0) (fun _ _ => 0)
  case atStart => exact ⟨rfl, rfl⟩
  case round =>
    obtain ⟨rfl, rfl⟩ := hrel
    have hne : Nonempty (Beyond wr) := ⟨⟨wr, Below.refl _ _⟩⟩
    go_wp2_with fail
    refine wp_region_beyond (by kernel_rfl) (by kernel_rfl) ?_
    repeat (go_big_quiet_step (fail))
    refine wpQuiet_nil ?_
    rintro w2 ⟨⟨_, hb2⟩, rfl⟩
    clear hne
    go_wp2
    have HB2 : Hid (Below w.heap.size w w2) := HB0.out.trans (hb2.mono (by omega))
    have hs2 : w.heap.size < w2.heap.size := by have := hb2.size; omega
    have HE2 : Hid (Ev.In w2 w.heap.size 0 e) := HE0.out.below hb2 (by omega)
    obtain ⟨q0, q1, q2, q3, q4, q5, q6⟩ := HE2.out.lits
    clear hb2
    go_region_held3 (fun W => W.cell? ⟨w.heap.size, 0, none⟩ = some (.int .i64 e.t) ∧ W.cell? ⟨w.heap.size, 1, none⟩ = some (.int .i64 e.s) ∧ W.cell? ⟨w.heap.size, 2, none⟩ = some (.int .i64 e.q) ∧ W.cell? ⟨w.heap.size, 3, none⟩ = some (.int .i64 e.d) ∧ W.cell? ⟨w.heap.size, 4, none⟩ = some (.int .i64 e.k) ∧ W.cell? ⟨w.heap.size, 5, none⟩ = some (.int .i64 e.v) ∧ W.cell? ⟨w.heap.size, 6, none⟩ = some (.int .i64 e.g)) (go_keep)
      (first
        | (refine step_append_own rfl (.tmp 26) (.tmp 28) 34 rfl w2.heap.size 40 i0 (.agg #[.int .i64 0, .int .i64 0, .int .i64 0, .int .i64 0, .int .i64 0, .int .i64 0, .int .i64 0]) 7 56 Try.underlying34 hi hz0 hz1 hz2 rfl (by decide) (.slice (some ⟨w2.heap.size, 0, none⟩) 0 0) 0 [] rfl (rowE2 w2 (.cells #[.int .i64 e.t, .int .i64 e.s, .int .i64 e.q, .int .i64 e.d, .int .i64 e.k, .int .i64 e.v, .int .i64 e.g] 40)) ⟨w2.heap.size + 1, 0, none⟩ 1 1 e.cs rfl rfl (Ev.In.cells (newE2 w2 e)) (Ev.cs_one e) (by unfold maxLen; omega) (by omega) (by simp; omega) ?_; intro v2 w3 hown2 hgrow2; have hE2 : Ev.In w3 w.heap.size 0 e := (HE2.out.below (Below.alloc (Below.alloc (Below.refl w2.heap.size w2) (Nat.le_refl _) (.cells #[] 40)) (by simp) (.cells #[.int .i64 e.t, .int .i64 e.s, .int .i64 e.q, .int .i64 e.d, .int .i64 e.k, .int .i64 e.v, .int .i64 e.g] 40)).drew (by omega)).grown hgrow2 (by simp; omega) (fun er => by have h9 : w.heap.size = w2.heap.size := Option.some.inj er; omega); obtain ⟨x0, x1, x2, x3, x4, x5, x6⟩ := hE2.lits; have hB3 : Below w2.heap.size w2 w3 := (Below.alloc (Below.alloc (Below.refl w2.heap.size w2) (Nat.le_refl _) (.cells #[] 40)) (by simp) (.cells #[.int .i64 e.t, .int .i64 e.s, .int .i64 e.q, .int .i64 e.d, .int .i64 e.k, .int .i64 e.v, .int .i64 e.g] 40)).drew.grown hgrow2 (by simp; omega) (fun r er => by cases er; first | (simp; done) | (simp; omega) | omega); have HO3 : Hid (w3.ownsRow w2.heap.size 40 7 v2 (0 + 1) ([] ++ e.cs)) := hown2)
        | (refine step_append_own rfl (.tmp 26) (.tmp 28) 34 rfl w2.heap.size 40 i0 (.agg #[.int .i64 0, .int .i64 0, .int .i64 0, .int .i64 0, .int .i64 0, .int .i64 0, .int .i64 0]) 7 56 Try.underlying34 hi hz0 hz1 hz2 rfl (by decide) (.slice (some ⟨w2.heap.size + 1, 0, none⟩) 0 0) 0 [] rfl (rowE3 w2 (.cells #[.int .i64 e.t, .int .i64 e.s, .int .i64 e.q, .int .i64 e.d, .int .i64 e.k, .int .i64 e.v, .int .i64 e.g] 40)) ⟨w2.heap.size, 0, none⟩ 1 1 e.cs rfl rfl (Ev.In.cells (newE3 w2 e)) (Ev.cs_one e) (by unfold maxLen; omega) (by omega) (by simp; omega) ?_; intro v2 w3 hown2 hgrow2; have hE2 : Ev.In w3 w.heap.size 0 e := (HE2.out.below (Below.alloc (Below.alloc (Below.refl w2.heap.size w2) (Nat.le_refl _) (.cells #[.int .i64 e.t, .int .i64 e.s, .int .i64 e.q, .int .i64 e.d, .int .i64 e.k, .int .i64 e.v, .int .i64 e.g] 40)) (by simp) (.cells #[] 40)).drew (by omega)).grown hgrow2 (by simp; omega) (fun er => by have h9 : w.heap.size = w2.heap.size + 1 := Option.some.inj er; omega); obtain ⟨x0, x1, x2, x3, x4, x5, x6⟩ := hE2.lits; have hB3 : Below w2.heap.size w2 w3 := (Below.alloc (Below.alloc (Below.refl w2.heap.size w2) (Nat.le_refl _) (.cells #[.int .i64 e.t, .int .i64 e.s, .int .i64 e.q, .int .i64 e.d, .int .i64 e.k, .int .i64 e.v, .int .i64 e.g] 40)) (by simp) (.cells #[] 40)).drew.grown hgrow2 (by simp; omega) (fun r er => by cases er; first | (simp; done) | (simp; omega) | omega); have HO3 : Hid (w3.ownsRow w2.heap.size 40 7 v2 (0 + 1) ([] ++ e.cs)) := hown2))
    all_goals
      clear hE2 x0 x1 x2 x3 x4 x5 x6 hown2 hgrow2
      go_wp2_with (at_builtin; refine wpList_append_own_none rfl _ _ 34 rfl w2.heap.size 40 i0 7 Try.underlying34 hi v2 (0 + 1) ([] ++ e.cs) rfl HO3.out rfl ?_)
      go_ret
      refine ⟨v2, rfl, OwnR.mono (show OwnR w2.heap.size _ _ _ from ?_) (Nat.le_of_lt hs2), HB2.out.trans (hB3.mono (Nat.le_of_lt hs2))⟩
      have := HO3.out
      unfold OwnR
      simpa [cellsL] using this

end Go.Proofs.Ytdcnimdhfhbdmaa
