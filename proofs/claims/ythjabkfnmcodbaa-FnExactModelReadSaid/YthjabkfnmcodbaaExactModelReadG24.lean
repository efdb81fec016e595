/- MRdR, MRdT, MTurn, Open, OpenS, MOpen -/
import Derived.Test.YthjabkfnmcodbaaExactModelReadLMRdM
import Derived.Defers
import Derived.Recover
import Derived.Test.YthjabkfnmcodbaaExactModelReadG14
import Derived.Test.YthjabkfnmcodbaaRows
import Derived.Test.YthjabkfnmcodbaaExactModelReadG17
import Derived.ProofKit
import Derived.ChangeOld
import Derived.Below
import Derived.OpenShut
import Derived.Test.YthjabkfnmcodbaaExactModelReadG05
import Derived.SizedLaws
/- The program's ModelRead: what is deferred; the answer's rows. -/
namespace Go.Proofs.Ythjabkfnmcodbaa
open Go.RowKit
theorem RowF.own {B : Nat} {T : TypeId} {w : World} {x : Value} {n c : Nat} {cs : List Value} (hcs : cs.length = n * c) (h : w.ownsRow B T c x n cs) : RowF (fun k => x.ownBlock = some k) w x n c cs := by
  obtain ⟨hl, a, cap, rfl, h1, h2, h3⟩ := RowF.of_owns hcs h
  refine ⟨hl, a, cap, rfl, h1, h2, h3.imp id ?_⟩
  rintro ⟨g, rfl, _, h4⟩
  exact ⟨g, rfl, by simp [Value.ownBlock], h4⟩
theorem us_range {us : List Value} {n : Nat} (h : us.length = n) : (List.range n).map (uAt us) = us := by
  subst h
  apply List.ext_getElem?
  intro i
  by_cases hi : i < us.length
  · simp [hi, uAt]
  · simp [hi]
theorem HsO.hsF {B B' : Nat} {w : World} {us : List Value} {hs : List (List O)} {v : Value} (h : HsO B w us hs) (hv : w.ownsRow B' 68 1 v hs.length us) : HsF (fun k => v.ownBlock = some k ∨ ∃ i, i < hs.length ∧ (uAt us i).ownBlock = some k) w v hs := by
  refine ⟨uAt us, (fun k => v.ownBlock = some k), (fun i k => (uAt us i).ownBlock = some k), ?_, fun k e => .inl e, fun i hi => ⟨RowF.own (cellsO_length _) (h.2.1 i hi), fun k e => ⟨.inr ⟨i, hi, e⟩, fun e' => owns_apart hv (h.2.1 i hi) (by decide) e' e⟩⟩, fun i j hi hj hij k e => ?_⟩
  · rw [us_range h.1]
    exact RowF.own (by rw [h.1]; omega) hv
  · by_cases hlt : i < j
    · exact h.2.2 i j k hlt hj e
    · intro e'
      exact h.2.2 j i k (by omega) hi e' e
theorem MO.mdf {w : World} {B : Nat} {m : Md} {vi vh vs : Value} {us : List Value} (g : MO w B m vi vh vs us) : MdF (fun k => B ≤ k ∧ k < w.heap.size) w (.agg #[.int .i64 m.n, .int .i64 m.s, vi, vh, vs, .int .i64 m.z]) m := by
  refine ⟨(fun k => vi.ownBlock = some k), (fun k => vh.ownBlock = some k ∨ ∃ i, i < m.h.length ∧ (uAt us i).ownBlock = some k), (fun k => vs.ownBlock = some k), vi, vh, vs, rfl, RowF.own (by rw [intCells_length]; omega) g.i, g.u.hsF g.h, RowF.own (cellsL_length _) g.e, fun k e => ⟨⟨row_ge g.i e, owns_lt g.i e⟩, ?_, owns_apart g.i g.e (by decide) e⟩, ?_, fun k e => ⟨row_ge g.e e, owns_lt g.e e⟩⟩
  · rintro (e' | ⟨i, hi, e'⟩)
    · exact owns_apart g.i g.h (by decide) e e'
    · exact owns_apart g.i (g.u.2.1 i hi) (by decide) e e'
  · rintro k (e | ⟨i, hi, e⟩)
    · exact ⟨⟨row_ge g.h e, owns_lt g.h e⟩, owns_apart g.h g.e (by decide) e⟩
    · exact ⟨⟨row_ge (g.u.2.1 i hi) e, owns_lt (g.u.2.1 i hi) e⟩, owns_apart (g.u.2.1 i hi) g.e (by decide) e⟩
theorem mdf_zero (F : Nat → Prop) (w : World) : MdF F w (.agg Z6) zeroM :=
  ⟨(fun _ => False), (fun _ => False), (fun _ => False), .slice none 0 0, .slice none 0 0, .slice none 0 0, rfl, ⟨rfl, none, 0, rfl, Nat.le_refl _, Nat.zero_le _, .inl rfl⟩, ⟨fun _ => .slice none 0 0, (fun _ => False), (fun _ _ => False), ⟨rfl, none, 0, rfl, Nat.le_refl _, Nat.zero_le _, .inl rfl⟩, fun _ e => e, fun i hi => absurd hi (Nat.not_lt_zero i), fun _ _ _ _ _ _ e => e.elim⟩, ⟨rfl, none, 0, rfl, Nat.le_refl _, Nat.zero_le _, .inl rfl⟩, fun _ e => e.elim, fun _ e => e.elim, fun _ e => e.elim⟩
set_option maxHeartbeats 4000000 in
theorem rcatch_panicking (P Q : Nat) (a0 a1 a2 a3 a4 a5 b : Value) (u : TypeId) (pv : Value) (older : List PanicEntry) (w : World) (hP : Bk w P 34 #[a0, a1, a2, a3, a4, a5]) (hQ : Bk w Q 4 #[b]) (hPQ : P ≠ Q) :
    CallsD Try.prog 55 #[.pointer (some ⟨P, 0, none⟩), .pointer (some ⟨Q, 0, none⟩)] (.panicking ({ v := .iface u pv, recovered := false } :: older)) w fun e u' w' =>
      e = .returned (.tuple #[]) ∧ u' = .panicking ({ v := .iface u pv, recovered := true } :: older) ∧ w' = (put6 w P (.int .i64 0) (.int .i64 0) (.slice none 0 0) (.slice none 0 0) (.slice none 0 0) (.int .i64 0)).setCell ⟨Q, 0, none⟩ (.bool false) := by
  have h0 : Bk (w.setCell ⟨P, 0, none⟩ (.int .i64 0)) P 34 #[.int .i64 0, a1, a2, a3, a4, a5] := hP.put 0 _
  have g1 := h0.cell (i := 1) rfl
  have x1 := h0.free 1
  have h1 : Bk ((w.setCell ⟨P, 0, none⟩ (.int .i64 0)).setCell ⟨P, 1, none⟩ (.int .i64 0)) P 34 #[.int .i64 0, .int .i64 0, a2, a3, a4, a5] := h0.put 1 _
  have g2 := h1.cell (i := 2) rfl
  have x2 := h1.free 2
  have h2 : Bk (((w.setCell ⟨P, 0, none⟩ (.int .i64 0)).setCell ⟨P, 1, none⟩ (.int .i64 0)).setCell ⟨P, 2, none⟩ (.slice none 0 0)) P 34 #[.int .i64 0, .int .i64 0, .slice none 0 0, a3, a4, a5] := h1.put 2 _
  have g3 := h2.cell (i := 3) rfl
  have x3 := h2.free 3
  have h3 : Bk ((((w.setCell ⟨P, 0, none⟩ (.int .i64 0)).setCell ⟨P, 1, none⟩ (.int .i64 0)).setCell ⟨P, 2, none⟩ (.slice none 0 0)).setCell ⟨P, 3, none⟩ (.slice none 0 0)) P 34 #[.int .i64 0, .int .i64 0, .slice none 0 0, .slice none 0 0, a4, a5] := h2.put 3 _
  have g4 := h3.cell (i := 4) rfl
  have x4 := h3.free 4
  have h4 : Bk (((((w.setCell ⟨P, 0, none⟩ (.int .i64 0)).setCell ⟨P, 1, none⟩ (.int .i64 0)).setCell ⟨P, 2, none⟩ (.slice none 0 0)).setCell ⟨P, 3, none⟩ (.slice none 0 0)).setCell ⟨P, 4, none⟩ (.slice none 0 0)) P 34 #[.int .i64 0, .int .i64 0, .slice none 0 0, .slice none 0 0, .slice none 0 0, a5] := h3.put 4 _
  have g5 := h4.cell (i := 5) rfl
  have x5 := h4.free 5
  have h5 : Bk ((((((w.setCell ⟨P, 0, none⟩ (.int .i64 0)).setCell ⟨P, 1, none⟩ (.int .i64 0)).setCell ⟨P, 2, none⟩ (.slice none 0 0)).setCell ⟨P, 3, none⟩ (.slice none 0 0)).setCell ⟨P, 4, none⟩ (.slice none 0 0)).setCell ⟨P, 5, none⟩ (.int .i64 0)) P 34 #[.int .i64 0, .int .i64 0, .slice none 0 0, .slice none 0 0, .slice none 0 0, .int .i64 0] := h4.put 5 _
  have hq : Bk ((((((w.setCell ⟨P, 0, none⟩ (.int .i64 0)).setCell ⟨P, 1, none⟩ (.int .i64 0)).setCell ⟨P, 2, none⟩ (.slice none 0 0)).setCell ⟨P, 3, none⟩ (.slice none 0 0)).setCell ⟨P, 4, none⟩ (.slice none 0 0)).setCell ⟨P, 5, none⟩ (.int .i64 0)) Q 4 #[b] := (((((hQ.other 0 _ hPQ.symm).other 1 _ hPQ.symm).other 2 _ hPQ.symm).other 3 _ hPQ.symm).other 4 _ hPQ.symm).other 5 _ hPQ.symm
  have g6 := hq.cell (i := 0) rfl
  have x6 := hq.free 0
  have g0 := hP.cell (i := 0) rfl
  have x0 := hP.free 0
  refine callsD_of_wpS Try.func55 rfl fun c₀ cs hu => ?_
  apply wpS_seq
  apply wpS_region
  simp [wpOpsS, go_sem, recoverD, hu, Try.ntmps55, Exit.thenS]
  refine wpS_cond (t := true) (by simp [Act.eval, Array.replicate]) ?_
  simp only [if_true]
  apply wpS_region
  simp [wpOpsS, go_sem, g1, x1, g2, x2, g3, x3, g4, x4, g5, x5, g6, x6, g0, x0, bodyPostS, results, Try.results55]
theorem rcatch_idle (P Q : Addr) (w : World) :
    CallsD Try.prog 55 #[.pointer (some P), .pointer (some Q)] .returning w fun e u' w' => e = .returned (.tuple #[]) ∧ u' = .returning ∧ w' = w := by
  refine callsD_of_wpS Try.func55 rfl fun c₀ cs hu => ?_
  apply wpS_seq
  apply wpS_region
  simp [wpOpsS, go_sem, recoverD, hu, Try.ntmps55, Exit.thenS]
  refine wpS_cond (t := false) (by simp [Act.eval, Array.replicate]) ?_
  simp only [Bool.false_eq_true, if_false]
  refine wpS_of_wp (wp_skip ?_)
  cases c₀
  simp_all [bodyPostS, results, Try.results55]
end Go.Proofs.Ythjabkfnmcodbaa

/- The program's ModelRead. -/
namespace Go.Proofs.Ythjabkfnmcodbaa
open Go.RowKit
set_option maxRecDepth 100000 in
set_option maxHeartbeats 8000000 in
theorem iReadM (x : Value) (l : List UInt8) (w : World) (hl : l.length ≤ 1048576) (hx : By.IsI w x l) :
    Calls Try.prog 24 #[x] w fun e w' => ∃ y, e = .returned (.tuple #[y, .bool (readOk l)]) ∧ Below w.heap.size w w' ∧ MdF (fun k => w.heap.size ≤ k ∧ k < w'.heap.size) w' y (readM l) := by
  have hmf : ∀ (fn : Fn) (first cap : Array Value) (w : World), (Instr.makeFunc fn first cap).run Try.prog w = .ok (.func fn first cap) w := fun _ _ _ _ => rfl
  obtain ⟨a, cap, rfl, h1, h2, h3⟩ := hx
  obtain ⟨R, hR⟩ : ∃ R, R = w.heap.size + 1 + 1 := ⟨_, rfl⟩
  obtain ⟨W0, hW0⟩ : ∃ W0, ((w.alloc (.cells Z6 34)).alloc (.cells #[.bool false] 4)).alloc (.cells #[.slice a l.length cap] 86) = W0 := ⟨_, rfl⟩
  have HB0 : Hid (Below w.heap.size w W0) := by rw [← hW0]; exact (((Below.refl _ w).alloc (Nat.le_refl _) _).alloc (by simp) _).alloc (by simp; omega) _
  have HP0 : Hid (Bk W0 w.heap.size 34 Z6) := by rw [← hW0]; exact ((Bk.new w _ _).alloc _).alloc _
  have HQ0 : Hid (Bk W0 (w.heap.size + 1) 4 #[.bool false]) := by rw [← hW0]; exact (Bk.newAt (by simp) _ _).alloc _
  have HR0 : Hid (Rd w.heap.size W0 R l 0) := by
    refine ⟨by omega, a, cap, ?_, Nat.zero_le _, h1, h2, ?_⟩
    · rw [← hW0, hR]; exact Bk.newAt (by simp) _ _
    · rcases h3 with rfl | ⟨b, off, rfl, hI⟩
      · exact .inl rfl
      · exact .inr ⟨b, off, rfl, hI.1, hI.below HB0.out hI.1⟩
  have HW0 : Hid (((w.alloc (.cells Z6 34)).alloc (.cells #[.bool false] 4)).alloc (.cells #[.slice a l.length cap] 86) = W0) := hW0
  have HRe : Hid (R = w.heap.size + 1 + 1) := hR
  have hRw : w.heap.size + 1 < R := by omega
  have hRs : R < W0.heap.size := HR0.out.lt
  clear h1 h2 h3 hW0 hR
  go_enter_defers Try.func24, Try.ntmps24
  go_wp2_with fail
  rw [HW0.out, ← HRe.out]
  refine (model_any w.heap.size R l _ hl HR0.out).mono ?_
  rintro e w1 ⟨ht, (⟨hok, vi, vh, vs, us, rfl, hM⟩ | ⟨hok, u, pv, rfl⟩)⟩
  · have HM1 : Hid (MO w1 W0.heap.size (rdM l) vi vh vs us) := hM
    have HB1 : Hid (Below w.heap.size w w1) := HB0.out.trans (ht.to_below (fun k e => by omega) (by omega))
    have HP1 : Hid (Bk w1 w.heap.size 34 Z6) := HP0.out.turns ht (by omega)
    have HQ1 : Hid (Bk w1 (w.heap.size + 1) 4 #[.bool false]) := HQ0.out.turns ht (by omega)
    have HOT : Hid (readOk l = true) := hok
    obtain ⟨ai, ci, hvi⟩ := owns_slice HM1.out.i
    obtain ⟨ah, ch, hvh⟩ := owns_slice HM1.out.h
    obtain ⟨ae, ce, hve⟩ := owns_slice HM1.out.e
    subst hvi hvh hve
    have hs1 := ht.size
    have q0 := HP1.out.cell (i := 0) rfl
    have q1 := HP1.out.cell (i := 1) rfl
    have q2 := HP1.out.cell (i := 2) rfl
    have q3 := HP1.out.cell (i := 3) rfl
    have q4 := HP1.out.cell (i := 4) rfl
    have q5 := HP1.out.cell (i := 5) rfl
    have qf := HP1.out.free
    have c0 := HQ1.out.cell (i := 0) rfl
    have cf := HQ1.out.free 0
    clear hok hM ht
    go_wp2
    clear q0 q1 q2 q3 q4 q5 qf c0 cf
    obtain ⟨X5, hX5⟩ : ∃ X5, put6 w1 w.heap.size (.int .i64 (rdM l).n) (.int .i64 (rdM l).s) (.slice ai (rdM l).i.length ci) (.slice ah (rdM l).h.length ch) (.slice ae (rdM l).e.length ce) (.int .i64 (rdM l).z) = X5 := ⟨_, rfl⟩
    have hP := HP1.out.put6 (.int .i64 (rdM l).n) (.int .i64 (rdM l).s) (.slice ai (rdM l).i.length ci) (.slice ah (rdM l).h.length ch) (.slice ae (rdM l).e.length ce) (.int .i64 (rdM l).z)
    have ht := put6_turns w1 w.heap.size (.int .i64 (rdM l).n) (.int .i64 (rdM l).s) (.slice ai (rdM l).i.length ci) (.slice ah (rdM l).h.length ch) (.slice ae (rdM l).e.length ce) (.int .i64 (rdM l).z)
    have hQ : Bk X5 (w.heap.size + 1) 4 #[.bool false] := hX5 ▸ HQ1.out.turns ht (by omega)
    rw [hX5] at hP ht
    unfold put6 at hX5
    rw [hX5]
    obtain ⟨X6, hX6⟩ : ∃ X6, X5.setCell ⟨w.heap.size + 1, 0, none⟩ (.bool true) = X6 := ⟨_, rfl⟩
    have hP6 : Bk X6 w.heap.size 34 #[.int .i64 (rdM l).n, .int .i64 (rdM l).s, .slice ai (rdM l).i.length ci, .slice ah (rdM l).h.length ch, .slice ae (rdM l).e.length ce, .int .i64 (rdM l).z] := hX6 ▸ hP.other 0 _ (by omega)
    have hQ6 : Bk X6 (w.heap.size + 1) 4 #[.bool true] := hX6 ▸ hQ.put 0 _
    have ht6 : Turns (fun k => k = w.heap.size ∨ k = w.heap.size + 1) w1 X6 := (ht.mono (fun k e => .inl e)).trans ((hX6 ▸ put1_turns X5 (w.heap.size + 1) 0 (.bool true) : Turns (fun k => k = w.heap.size + 1) X5 X6).mono (fun k e => .inr e))
    rw [hX6]
    clear hX5 hX6
    have hM6 : MdF (fun k => W0.heap.size ≤ k ∧ k < w1.heap.size) X6 (.agg #[.int .i64 (rdM l).n, .int .i64 (rdM l).s, .slice ai (rdM l).i.length ci, .slice ah (rdM l).h.length ch, .slice ae (rdM l).e.length ce, .int .i64 (rdM l).z]) (rdM l) := HM1.out.mdf.turns ht6 (fun k e => by omega)
    have t0 := hP6.cell (i := 0) rfl
    have t1 := hP6.cell (i := 1) rfl
    have t2 := hP6.cell (i := 2) rfl
    have t3 := hP6.cell (i := 3) rfl
    have t4 := hP6.cell (i := 4) rfl
    have t5 := hP6.cell (i := 5) rfl
    have t6 := hQ6.cell (i := 0) rfl
    have hs6 := ht6.size
    have hB6 : Below w.heap.size w X6 := HB1.out.trans (ht6.to_below (fun k e => by omega) HB1.out.size)
    refine leaves_cons (f := 55) (args := #[.pointer (some ⟨w.heap.size, 0, none⟩), .pointer (some ⟨w.heap.size + 1, 0, none⟩)]) (by simp) (by simp [go_sem]) ?_
    refine (rcatch_idle ⟨w.heap.size, 0, none⟩ ⟨w.heap.size + 1, 0, none⟩ _).mono ?_
    rintro e u' w'' ⟨rfl, rfl, rfl⟩
    have hfin : ∃ y, Ending.returned (.tuple #[.agg #[.int .i64 (rdM l).n, .int .i64 (rdM l).s, .slice ai (rdM l).i.length ci, .slice ah (rdM l).h.length ch, .slice ae (rdM l).e.length ce, .int .i64 (rdM l).z], .bool true]) = .returned (.tuple #[y, .bool (readOk l)]) ∧ Below w.heap.size w w'' ∧ MdF (fun k => w.heap.size ≤ k ∧ k < w''.heap.size) w'' y (readM l) := by
      refine ⟨_, by rw [HOT.out], hB6, ?_⟩
      rw [show readM l = rdM l from by simp [readM, HOT.out]]
      exact hM6.mono (fun k e => by omega)
    refine ⟨.tuple #[.agg #[.int .i64 (rdM l).n, .int .i64 (rdM l).s, .slice ai (rdM l).i.length ci, .slice ah (rdM l).h.length ch, .slice ae (rdM l).e.length ce, .int .i64 (rdM l).z], .bool true], by simp [results, Try.results24, go_sem, t0, t1, t2, t3, t4, t5, t6], hfin⟩
  · have HOF : Hid (readOk l = false) := hok
    have HP1 : Bk w1 w.heap.size 34 Z6 := HP0.out.turns ht (by omega)
    have HQ1 : Bk w1 (w.heap.size + 1) 4 #[.bool false] := HQ0.out.turns ht (by omega)
    have hB1 : Below w.heap.size w w1 := HB0.out.trans (ht.to_below (fun k e => by omega) (by omega))
    clear hok ht
    go_wp2
    refine leaves_cons (f := 55) (args := #[.pointer (some ⟨w.heap.size, 0, none⟩), .pointer (some ⟨w.heap.size + 1, 0, none⟩)]) (by simp) (by simp [go_sem]) ?_
    refine (rcatch_panicking w.heap.size (w.heap.size + 1) _ _ _ _ _ _ _ u pv [] _ HP1 HQ1 (by omega)).mono ?_
    rintro e u' w'' ⟨rfl, rfl, hw⟩
    have hP := HP1.put6 (.int .i64 0) (.int .i64 0) (.slice none 0 0) (.slice none 0 0) (.slice none 0 0) (.int .i64 0)
    have ht := put6_turns w1 w.heap.size (.int .i64 0) (.int .i64 0) (.slice none 0 0) (.slice none 0 0) (.slice none 0 0) (.int .i64 0)
    have hQ := HQ1.turns ht (by omega)
    have hP6 : Bk w'' w.heap.size 34 Z6 := hw ▸ hP.other 0 _ (by omega)
    have hQ6 : Bk w'' (w.heap.size + 1) 4 #[.bool false] := hw ▸ hQ.put 0 _
    have ht6 : Turns (fun k => k = w.heap.size ∨ k = w.heap.size + 1) w1 w'' := hw ▸ (ht.mono (fun k e => .inl e)).trans ((put1_turns _ (w.heap.size + 1) 0 (.bool false)).mono (fun k e => .inr e))
    have t0 := hP6.cell (i := 0) rfl
    have t1 := hP6.cell (i := 1) rfl
    have t2 := hP6.cell (i := 2) rfl
    have t3 := hP6.cell (i := 3) rfl
    have t4 := hP6.cell (i := 4) rfl
    have t5 := hP6.cell (i := 5) rfl
    have t6 := hQ6.cell (i := 0) rfl
    have hB6 : Below w.heap.size w w'' := hB1.trans (ht6.to_below (fun k e => by omega) hB1.size)
    clear hw
    have hfin : ∃ y, Ending.returned (.tuple #[.agg Z6, .bool false]) = .returned (.tuple #[y, .bool (readOk l)]) ∧ Below w.heap.size w w'' ∧ MdF (fun k => w.heap.size ≤ k ∧ k < w''.heap.size) w'' y (readM l) := by
      refine ⟨_, by rw [HOF.out], hB6, ?_⟩
      rw [show readM l = zeroM from by simp [readM, HOF.out]]
      exact mdf_zero _ _
    refine ⟨.tuple #[.agg Z6, .bool false], by simp [results, Try.results24, go_sem, t0, t1, t2, t3, t4, t5, t6], hfin⟩
end Go.Proofs.Ythjabkfnmcodbaa

/- Rows of one's own stay where others turn. -/
namespace Go.Proofs.Ythjabkfnmcodbaa
open Go.RowKit
theorem OwnI.turns {B : Nat} {S : Nat → Prop} {w w' : World} {x : Value} {l : List Int} (h : OwnI B w x l) (ht : Turns S w w') (hS : ∀ k, S k → k < B) : OwnI B w' x l := by
  obtain ⟨a, cap, rfl, h1, h2, h⟩ := h
  refine ⟨a, cap, rfl, h1, h2, h.imp id ?_⟩
  rintro ⟨b, rfl, hB, hf, hr⟩
  have hn : ¬ S b := fun e => by have := hS b e; omega
  exact ⟨b, rfl, hB, fun j hj => (ht.frozen hr.1 hn).trans (hf j hj), Nat.lt_of_lt_of_le hr.1 ht.size, fun i hi => (ht.cell hr.1 hn).trans (hr.2 i hi)⟩
theorem By.OwnI.turns {B : Nat} {S : Nat → Prop} {w w' : World} {x : Value} {l : List UInt8} (h : By.OwnI B w x l) (ht : Turns S w w') (hS : ∀ k, S k → k < B) : By.OwnI B w' x l := by
  obtain ⟨a, cap, rfl, h1, h2, h⟩ := h
  refine ⟨a, cap, rfl, h1, h2, h.imp id ?_⟩
  rintro ⟨b, rfl, hB, hf, hr⟩
  have hn : ¬ S b := fun e => by have := hS b e; omega
  exact ⟨b, rfl, hB, fun j hj => (ht.frozen hr.1 hn).trans (hf j hj), Nat.lt_of_lt_of_le hr.1 ht.size, fun i hi => (ht.cell hr.1 hn).trans (hr.2 i hi)⟩
end Go.Proofs.Ythjabkfnmcodbaa

/- How an event that came in is read: seven integers. -/
namespace Go.Proofs.Ythjabkfnmcodbaa
open Go.ChangeShapes Go.WideShapes Go.ChangeAt Go.RowKit

theorem cells23 : Try.prog.cellsOf 95 = 7 := by kernel_rfl

def wfI (x : Int) : Prop := (Lit.int .i64 x).wf = true

theorem list7 {α : Type} {l : List α} (h : l.length = 7) : ∃ a b c d e f g, l = [a, b, c, d, e, f, g] := by
  match l, h with
  | [a, b, c, d, e, f, g], _ => exact ⟨a, b, c, d, e, f, g, rfl⟩

set_option maxRecDepth 100000 in
theorem trod_ev {H : Type} {enc : TypeId × Value → H} {w : World} {base : Nat} {spare : Nat → Bool} {held : Bool} {fuel : Nat} {cs : List Value} {x : DataW H × List MemPlace}
    (h : DataW.trod enc Try.prog w base spare held fuel 95 cs = some x) :
    ∃ t s q d k v g : Int, cs = [.int .i64 t, .int .i64 s, .int .i64 q, .int .i64 d, .int .i64 k, .int .i64 v, .int .i64 g] ∧ wfI t ∧ wfI s ∧ wfI q ∧ wfI d ∧ wfI k ∧ wfI v ∧ wfI g := by
  obtain ⟨xs, n, _, rfl, hl, hlen, hf⟩ := DataW.trod_struct Try.underlying95 h
  rw [cells23] at hl
  obtain ⟨c0, c1, c2, c3, c4, c5, c6, rfl⟩ := list7 hl
  have hx : xs.length = 7 := by simpa using hlen
  obtain ⟨y0, y1, y2, y3, y4, y5, y6, rfl⟩ := list7 hx
  have h0 := hf 0 _ rfl
  have h1 := hf 1 _ rfl
  have h2 := hf 2 _ rfl
  have h3 := hf 3 _ rfl
  have h4 := hf 4 _ rfl
  have h5 := hf 5 _ rfl
  have h6 := hf 6 _ rfl
  obtain ⟨a0, e0, _, w0⟩ := DataW.trod_int Try.underlying3 h0
  obtain ⟨a1, e1, _, w1⟩ := DataW.trod_int Try.underlying3 h1
  obtain ⟨a2, e2, _, w2⟩ := DataW.trod_int Try.underlying3 h2
  obtain ⟨a3, e3, _, w3⟩ := DataW.trod_int Try.underlying3 h3
  obtain ⟨a4, e4, _, w4⟩ := DataW.trod_int Try.underlying3 h4
  obtain ⟨a5, e5, _, w5⟩ := DataW.trod_int Try.underlying3 h5
  obtain ⟨a6, e6, _, w6⟩ := DataW.trod_int Try.underlying3 h6
  simp [cells3] at e0 e1 e2 e3 e4 e5 e6
  subst e0 e1 e2 e3 e4 e5 e6
  exact ⟨a0, a1, a2, a3, a4, a5, a6, rfl, w0, w1, w2, w3, w4, w5, w6⟩

set_option maxRecDepth 100000 in
theorem open_ev {H : Type} {enc : TypeId × Value → H} {w : World} {base b0 : Nat} {spare : Nat → Bool} {held : Bool} {r : Reach} {v : Value} {d : DataW H} {p : List MemPlace}
    (hv : Value.okWide Try.prog w r b0 95 v) (h : DataW.Trod enc Try.prog w base spare held 95 v d p) :
    ∃ t s q d k z g : Int, v = .agg #[.int .i64 t, .int .i64 s, .int .i64 q, .int .i64 d, .int .i64 k, .int .i64 z, .int .i64 g] ∧ wfI t ∧ wfI s ∧ wfI q ∧ wfI d ∧ wfI k ∧ wfI z ∧ wfI g := by
  obtain ⟨cs, rfl, hsz⟩ := okWide_struct Try.underlying95 hv
  obtain ⟨fuel, hf⟩ := h
  obtain ⟨t, s, q, d, k, z, g, e, hw⟩ := trod_ev hf
  refine ⟨t, s, q, d, k, z, g, ?_, hw⟩
  rw [show cs = #[.int .i64 t, .int .i64 s, .int .i64 q, .int .i64 d, .int .i64 k, .int .i64 z, .int .i64 g] from by
    apply Array.toList_inj.1
    simpa [Value.cells] using e]
end Go.Proofs.Ythjabkfnmcodbaa

/- How a list of events that came in is read. -/
namespace Go.Proofs.Ythjabkfnmcodbaa
open Go.ChangeShapes Go.WideShapes Go.ChangeAt Go.RowKit

theorem evs_list {w : World} {b off : Nat} : ∀ n, (∀ i, i < n → ∃ e : Ev, Ev.In w b (off + i * 7) e) → ∃ l : List Ev, l.length = n ∧ ∀ i, i < n → Ev.In w b (off + i * 7) (evAt l i)
  | 0, _ => ⟨[], rfl, fun i hi => by omega⟩
  | n + 1, h => by
    obtain ⟨l, hl, hi⟩ := evs_list n (fun i hi => h i (by omega))
    obtain ⟨e, he⟩ := h n (by omega)
    refine ⟨l ++ [e], by simp [hl], fun i hi' => ?_⟩
    by_cases hin : i < n
    · have : evAt (l ++ [e]) i = evAt l i := by unfold evAt; simp [List.getElem?_append_left (by omega : i < l.length)]
      rw [this]; exact hi i hin
    · have : evAt (l ++ [e]) i = e := by unfold evAt; simp [show i = l.length by omega]
      rw [this, show i = n by omega]; exact he

set_option maxRecDepth 100000 in
theorem open_evs {H : Type} {enc : TypeId × Value → H} {w : World} {b0 : Nat} {spare : Nat → Bool} {held : Bool} {r : Reach} {v : Value} {d : DataW H} {p : List MemPlace}
    (hv : Value.okWide Try.prog w r b0 24 v) (h : DataW.Trod enc Try.prog w 0 spare held 24 v d p) : ∃ l : List Ev, IsEvs w v l := by
  obtain ⟨a0, len, cap, rfl⟩ := okWide_slice Try.underlying24 hv
  obtain ⟨fuel, hf⟩ := h
  rcases DataW.trod_slice Try.underlying24 hf with ⟨hcs, _⟩ | ⟨a, len', cap', elems, rest, n, _, hcs, _, hb, hl, hm, hlen, hel, _, _⟩
  · simp [Value.cells] at hcs
    obtain ⟨rfl, rfl, rfl⟩ := hcs
    exact ⟨[], _, _, rfl, Nat.le_refl _, by unfold maxLen; omega, .inl rfl⟩
  · simp [Value.cells] at hcs
    obtain ⟨rfl, rfl, rfl⟩ := hcs
    by_cases h0 : len = 0
    · subst h0
      exact ⟨[], _, _, rfl, hl, hm, .inl rfl⟩
    · obtain ⟨b, off, spot⟩ := a
      have hs : spot = none := by
        have h1 := hel 0 (by omega)
        rw [cells23, List.getElem?_eq_getElem (by omega)] at h1
        obtain ⟨cs, hc, ht⟩ := Option.bind_eq_some_iff.1 h1
        obtain ⟨t, s, q, d, k, v, g, rfl, _⟩ := trod_ev ht
        have c0 := (World.cells?_some hc).2.2 0 (by omega)
        simpa [Addr.add] using World.cell?_spot c0
      subst hs
      have each : ∀ i, i < len → ∃ e : Ev, Ev.In w b (off + i * 7) e ∧ b < w.heap.size := by
        intro i hi
        have h1 := hel i hi
        rw [cells23, List.getElem?_eq_getElem (by omega), add_plain] at h1
        obtain ⟨cs, hc, ht⟩ := Option.bind_eq_some_iff.1 h1
        obtain ⟨t, s, q, d, k, v, g, rfl, _⟩ := trod_ev ht
        have hblk : b < w.heap.size := World.cells?_block hc (by omega)
        obtain ⟨_, _, hcell⟩ := World.cells?_some hc
        simp only [add_plain] at hcell
        exact ⟨⟨t, s, q, d, k, v, g⟩, ⟨hcell 0 (by omega), hcell 1 (by omega), hcell 2 (by omega), hcell 3 (by omega), hcell 4 (by omega), hcell 5 (by omega), hcell 6 (by omega)⟩, hblk⟩
      obtain ⟨_, _, hblk⟩ := each 0 (by omega)
      obtain ⟨l, rfl, hi⟩ := evs_list (w := w) (b := b) (off := off) len (fun i hi => by
        obtain ⟨e, he, _⟩ := each i hi
        exact ⟨e, he⟩)
      exact ⟨l, _, _, rfl, hl, hm, .inr ⟨b, off, rfl, hblk, hi⟩⟩
end Go.Proofs.Ythjabkfnmcodbaa

/- How a model that came in is read. -/
namespace Go.Proofs.Ythjabkfnmcodbaa
open Go.ChangeShapes Go.WideShapes Go.ChangeAt Go.RowKit
theorem cellsOp : Try.prog.cellsOf 28 = 4 := by kernel_rfl
theorem cellsRow : Try.prog.cellsOf 92 = 1 := by kernel_rfl
theorem cellsRows : Try.prog.cellsOf 23 = 1 := by kernel_rfl
theorem cellsInts : Try.prog.cellsOf 22 = 1 := by kernel_rfl
theorem cellsEvs : Try.prog.cellsOf 24 = 1 := by kernel_rfl
theorem cellsM : Try.prog.cellsOf 26 = 6 := by kernel_rfl
theorem list4 {α : Type} {l : List α} (h : l.length = 4) : ∃ a b c d, l = [a, b, c, d] := by
  match l, h with
  | [a, b, c, d], _ => exact ⟨a, b, c, d, rfl⟩
theorem list6 {α : Type} {l : List α} (h : l.length = 6) : ∃ a b c d e f, l = [a, b, c, d, e, f] := by
  match l, h with
  | [a, b, c, d, e, f], _ => exact ⟨a, b, c, d, e, f, rfl⟩
set_option maxRecDepth 100000 in
theorem trod_op {H : Type} {enc : TypeId × Value → H} {w : World} {base : Nat} {spare : Nat → Bool} {held : Bool} {fuel : Nat} {cs : List Value} {x : DataW H × List MemPlace}
    (h : DataW.trod enc Try.prog w base spare held fuel 28 cs = some x) : ∃ c a b k : Int, cs = [.int .i64 c, .int .i64 a, .int .i64 b, .int .i64 k] ∧ wfI c ∧ wfI a ∧ wfI b ∧ wfI k := by
  obtain ⟨xs, n, _, rfl, hl, hlen, hf⟩ := DataW.trod_struct Try.underlying28 h
  rw [cellsOp] at hl
  obtain ⟨c0, c1, c2, c3, rfl⟩ := list4 hl
  have hx : xs.length = 4 := by simpa using hlen
  obtain ⟨y0, y1, y2, y3, rfl⟩ := list4 hx
  have h0 := hf 0 _ rfl
  have h1 := hf 1 _ rfl
  have h2 := hf 2 _ rfl
  have h3 := hf 3 _ rfl
  obtain ⟨a0, e0, _, w0⟩ := DataW.trod_int Try.underlying3 h0
  obtain ⟨a1, e1, _, w1⟩ := DataW.trod_int Try.underlying3 h1
  obtain ⟨a2, e2, _, w2⟩ := DataW.trod_int Try.underlying3 h2
  obtain ⟨a3, e3, _, w3⟩ := DataW.trod_int Try.underlying3 h3
  simp [cells3] at e0 e1 e2 e3
  subst e0 e1 e2 e3
  exact ⟨a0, a1, a2, a3, rfl, w0, w1, w2, w3⟩
set_option maxRecDepth 100000 in
theorem trod_ints {H : Type} {enc : TypeId × Value → H} {w : World} {spare : Nat → Bool} {held : Bool} {fuel : Nat} {cs : List Value} {x : DataW H × List MemPlace}
    (hf : DataW.trod enc Try.prog w 0 spare held fuel 22 cs = some x) : ∃ v l, cs = [v] ∧ IsI w v l := by
  rcases DataW.trod_slice Try.underlying22 hf with ⟨rfl, _⟩ | ⟨a, len, cap, elems, rest, n, _, rfl, _, hb, hl, hm, hlen, hel, _, _⟩
  · exact ⟨_, [], rfl, none, 0, rfl, Nat.le_refl _, by unfold maxLen; omega, .inl rfl⟩
  · by_cases h0 : len = 0
    · subst h0
      exact ⟨_, [], rfl, _, _, rfl, hl, hm, .inl rfl⟩
    · obtain ⟨b, off, spot⟩ := a
      have hs : spot = none := by
        have h1 := hel 0 (by omega)
        rw [cells3, List.getElem?_eq_getElem (by omega)] at h1
        obtain ⟨cs, hc, ht⟩ := Option.bind_eq_some_iff.1 h1
        obtain ⟨t, rfl, _⟩ := DataW.trod_int Try.underlying3 ht
        have c0 := (World.cells?_some hc).2.2 0 (by omega)
        simpa [Addr.add] using World.cell?_spot c0
      subst hs
      have each : ∀ i, i < len → ∃ z : Int, w.cell? ⟨b, off + i, none⟩ = some (.int .i64 z) ∧ b < w.heap.size := by
        intro i hi
        have h1 := hel i hi
        rw [cells3, List.getElem?_eq_getElem (by omega), add_plain] at h1
        obtain ⟨cs, hc, ht⟩ := Option.bind_eq_some_iff.1 h1
        obtain ⟨t, rfl, _, hw⟩ := DataW.trod_int Try.underlying3 ht
        have hblk : b < w.heap.size := World.cells?_block hc (by omega)
        obtain ⟨_, _, hcell⟩ := World.cells?_some hc
        have h2 := hcell 0 (by omega)
        simp only [add_plain] at h2
        exact ⟨t, by simpa using h2, hblk⟩
      obtain ⟨_, _, hblk⟩ := each 0 (by omega)
      obtain ⟨l, rfl, hi⟩ := ints_list (w := w) (b := b) (off := off) len (fun i hi => by
        obtain ⟨e, he, _⟩ := each i hi
        exact ⟨e, he⟩)
      exact ⟨_, l, rfl, _, _, rfl, hl, hm, .inr ⟨b, off, rfl, hblk, hi⟩⟩
set_option maxRecDepth 100000 in
theorem trod_evs {H : Type} {enc : TypeId × Value → H} {w : World} {spare : Nat → Bool} {held : Bool} {fuel : Nat} {cs : List Value} {x : DataW H × List MemPlace}
    (hf : DataW.trod enc Try.prog w 0 spare held fuel 24 cs = some x) : ∃ v l, cs = [v] ∧ IsEvs w v l := by
  rcases DataW.trod_slice Try.underlying24 hf with ⟨rfl, _⟩ | ⟨a, len, cap, elems, rest, n, _, rfl, _, hb, hl, hm, hlen, hel, _, _⟩
  · exact ⟨_, [], rfl, none, 0, rfl, Nat.le_refl _, by unfold maxLen; omega, .inl rfl⟩
  · by_cases h0 : len = 0
    · subst h0
      exact ⟨_, [], rfl, _, _, rfl, hl, hm, .inl rfl⟩
    · obtain ⟨b, off, spot⟩ := a
      have hs : spot = none := by
        have h1 := hel 0 (by omega)
        rw [cells23, List.getElem?_eq_getElem (by omega)] at h1
        obtain ⟨cs, hc, ht⟩ := Option.bind_eq_some_iff.1 h1
        obtain ⟨t, s, q, d, k, v, g, rfl, _⟩ := trod_ev ht
        have c0 := (World.cells?_some hc).2.2 0 (by omega)
        simpa [Addr.add] using World.cell?_spot c0
      subst hs
      have each : ∀ i, i < len → ∃ e : Ev, Ev.In w b (off + i * 7) e ∧ b < w.heap.size := by
        intro i hi
        have h1 := hel i hi
        rw [cells23, List.getElem?_eq_getElem (by omega), add_plain] at h1
        obtain ⟨cs, hc, ht⟩ := Option.bind_eq_some_iff.1 h1
        obtain ⟨t, s, q, d, k, v, g, rfl, _⟩ := trod_ev ht
        have hblk : b < w.heap.size := World.cells?_block hc (by omega)
        obtain ⟨_, _, hcell⟩ := World.cells?_some hc
        simp only [add_plain] at hcell
        exact ⟨⟨t, s, q, d, k, v, g⟩, ⟨hcell 0 (by omega), hcell 1 (by omega), hcell 2 (by omega), hcell 3 (by omega), hcell 4 (by omega), hcell 5 (by omega), hcell 6 (by omega)⟩, hblk⟩
      obtain ⟨_, _, hblk⟩ := each 0 (by omega)
      obtain ⟨l, rfl, hi⟩ := evs_list (w := w) (b := b) (off := off) len (fun i hi => by
        obtain ⟨e, he, _⟩ := each i hi
        exact ⟨e, he⟩)
      exact ⟨_, l, rfl, _, _, rfl, hl, hm, .inr ⟨b, off, rfl, hblk, hi⟩⟩
theorem os_list {w : World} {b off : Nat} : ∀ n, (∀ i, i < n → ∃ e : O, OAt w b (off + i * 4) e) → ∃ l : List O, l.length = n ∧ ∀ i, i < n → OAt w b (off + i * 4) (oAt l i)
  | 0, _ => ⟨[], rfl, fun i hi => by omega⟩
  | n + 1, h => by
    obtain ⟨l, hl, hi⟩ := os_list n (fun i hi => h i (by omega))
    obtain ⟨e, he⟩ := h n (by omega)
    refine ⟨l ++ [e], by simp [hl], fun i hi' => ?_⟩
    by_cases hin : i < n
    · have : oAt (l ++ [e]) i = oAt l i := by unfold oAt; simp [List.getElem?_append_left (by omega : i < l.length)]
      rw [this]; exact hi i hin
    · have : oAt (l ++ [e]) i = e := by unfold oAt; simp [show i = l.length by omega]
      rw [this, show i = n by omega]; exact he
set_option maxRecDepth 100000 in
theorem trod_ops {H : Type} {enc : TypeId × Value → H} {w : World} {spare : Nat → Bool} {held : Bool} {fuel : Nat} {cs : List Value} {x : DataW H × List MemPlace}
    (hf : DataW.trod enc Try.prog w 0 spare held fuel 92 cs = some x) : ∃ v l, cs = [v] ∧ IsO w v l := by
  rcases DataW.trod_slice Try.underlying92 hf with ⟨rfl, _⟩ | ⟨a, len, cap, elems, rest, n, _, rfl, _, hb, hl, hm, hlen, hel, _, _⟩
  · exact ⟨_, [], rfl, none, 0, rfl, Nat.le_refl _, by unfold maxLen; omega, .inl rfl⟩
  · by_cases h0 : len = 0
    · subst h0
      exact ⟨_, [], rfl, _, _, rfl, hl, hm, .inl rfl⟩
    · obtain ⟨b, off, spot⟩ := a
      have hs : spot = none := by
        have h1 := hel 0 (by omega)
        rw [cellsOp, List.getElem?_eq_getElem (by omega)] at h1
        obtain ⟨cs, hc, ht⟩ := Option.bind_eq_some_iff.1 h1
        obtain ⟨c, a, b, k, rfl, _⟩ := trod_op ht
        have c0 := (World.cells?_some hc).2.2 0 (by omega)
        simpa [Addr.add] using World.cell?_spot c0
      subst hs
      have each : ∀ i, i < len → ∃ e : O, OAt w b (off + i * 4) e ∧ b < w.heap.size := by
        intro i hi
        have h1 := hel i hi
        rw [cellsOp, List.getElem?_eq_getElem (by omega), add_plain] at h1
        obtain ⟨cs, hc, ht⟩ := Option.bind_eq_some_iff.1 h1
        obtain ⟨c, a, b', k, rfl, _⟩ := trod_op ht
        have hblk : b < w.heap.size := World.cells?_block hc (by omega)
        obtain ⟨_, _, hcell⟩ := World.cells?_some hc
        simp only [add_plain] at hcell
        exact ⟨⟨c, a, b', k⟩, ⟨hcell 0 (by omega), hcell 1 (by omega), hcell 2 (by omega), hcell 3 (by omega)⟩, hblk⟩
      obtain ⟨_, _, hblk⟩ := each 0 (by omega)
      obtain ⟨l, rfl, hi⟩ := os_list (w := w) (b := b) (off := off) len (fun i hi => by
        obtain ⟨e, he, _⟩ := each i hi
        exact ⟨e, he⟩)
      exact ⟨_, l, rfl, _, _, rfl, hl, hm, .inr ⟨b, off, rfl, hblk, hi⟩⟩
theorem hs_list {w : World} {b off : Nat} : ∀ n, (∀ i, i < n → ∃ u l, w.cell? ⟨b, off + i, none⟩ = some u ∧ IsO w u l) → ∃ l : List (List O), l.length = n ∧ ∀ i, i < n → ∃ u, w.cell? ⟨b, off + i, none⟩ = some u ∧ IsO w u (hAt l i)
  | 0, _ => ⟨[], rfl, fun i hi => by omega⟩
  | n + 1, h => by
    obtain ⟨l, hl, hi⟩ := hs_list n (fun i hi => h i (by omega))
    obtain ⟨u, r, hu, hr⟩ := h n (by omega)
    refine ⟨l ++ [r], by simp [hl], fun i hi' => ?_⟩
    by_cases hin : i < n
    · have : hAt (l ++ [r]) i = hAt l i := by unfold hAt; simp [List.getElem?_append_left (by omega : i < l.length)]
      rw [this]; exact hi i hin
    · have : hAt (l ++ [r]) i = r := by unfold hAt; simp [show i = l.length by omega]
      rw [this, show i = n by omega]; exact ⟨u, hu, hr⟩
set_option maxRecDepth 100000 in
theorem trod_hs {H : Type} {enc : TypeId × Value → H} {w : World} {spare : Nat → Bool} {held : Bool} {fuel : Nat} {cs : List Value} {x : DataW H × List MemPlace}
    (hf : DataW.trod enc Try.prog w 0 spare held fuel 23 cs = some x) : ∃ v l, cs = [v] ∧ IsH w v l := by
  rcases DataW.trod_slice Try.underlying23 hf with ⟨rfl, _⟩ | ⟨a, len, cap, elems, rest, n, _, rfl, _, hb, hl, hm, hlen, hel, _, _⟩
  · exact ⟨_, [], rfl, none, 0, rfl, Nat.le_refl _, by unfold maxLen; omega, .inl rfl⟩
  · by_cases h0 : len = 0
    · subst h0
      exact ⟨_, [], rfl, _, _, rfl, hl, hm, .inl rfl⟩
    · obtain ⟨b, off, spot⟩ := a
      have hs : spot = none := by
        have h1 := hel 0 (by omega)
        rw [cellsRow, List.getElem?_eq_getElem (by omega)] at h1
        obtain ⟨cs, hc, ht⟩ := Option.bind_eq_some_iff.1 h1
        obtain ⟨v, l, rfl, _⟩ := trod_ops ht
        have c0 := (World.cells?_some hc).2.2 0 (by omega)
        simpa [Addr.add] using World.cell?_spot c0
      subst hs
      have each : ∀ i, i < len → ∃ u l, (w.cell? ⟨b, off + i, none⟩ = some u ∧ IsO w u l) ∧ b < w.heap.size := by
        intro i hi
        have h1 := hel i hi
        rw [cellsRow, List.getElem?_eq_getElem (by omega), add_plain] at h1
        obtain ⟨cs, hc, ht⟩ := Option.bind_eq_some_iff.1 h1
        obtain ⟨v, l, rfl, hv⟩ := trod_ops ht
        have hblk : b < w.heap.size := World.cells?_block hc (by omega)
        obtain ⟨_, _, hcell⟩ := World.cells?_some hc
        have h2 := hcell 0 (by omega)
        simp only [add_plain] at h2
        exact ⟨v, l, ⟨by simpa using h2, hv⟩, hblk⟩
      obtain ⟨_, _, _, hblk⟩ := each 0 (by omega)
      obtain ⟨l, rfl, hi⟩ := hs_list (w := w) (b := b) (off := off) len (fun i hi => by
        obtain ⟨u, l, he, _⟩ := each i hi
        exact ⟨u, l, he⟩)
      exact ⟨_, l, rfl, _, _, rfl, hl, hm, .inr ⟨b, off, rfl, hblk, hi⟩⟩
set_option maxRecDepth 100000 in
theorem open_model {H : Type} {enc : TypeId × Value → H} {w : World} {b0 : Nat} {spare : Nat → Bool} {held : Bool} {r : Reach} {v : Value} {d : DataW H} {p : List MemPlace}
    (hv : Value.okWide Try.prog w r b0 26 v) (h : DataW.Trod enc Try.prog w 0 spare held 26 v d p) : ∃ m : Md, IsM w v m := by
  obtain ⟨cs, rfl, hsz⟩ := okWide_struct Try.underlying26 hv
  obtain ⟨fuel, hf⟩ := h
  obtain ⟨xs, n, _, _, hl, hlen, hf⟩ := DataW.trod_struct Try.underlying26 hf
  rw [cellsM] at hl
  obtain ⟨c0, c1, c2, c3, c4, c5, hcs⟩ := list6 hl
  have hx : xs.length = 6 := by simpa using hlen
  obtain ⟨y0, y1, y2, y3, y4, y5, rfl⟩ := list6 hx
  rw [hcs] at hf
  have h0 := hf 0 _ rfl
  have h1 := hf 1 _ rfl
  have h2 := hf 2 _ rfl
  have h3 := hf 3 _ rfl
  have h4 := hf 4 _ rfl
  have h5 := hf 5 _ rfl
  obtain ⟨a0, e0, _, _⟩ := DataW.trod_int Try.underlying3 h0
  obtain ⟨a1, e1, _, _⟩ := DataW.trod_int Try.underlying3 h1
  obtain ⟨v2, l2, e2, g2⟩ := trod_ints h2
  obtain ⟨v3, l3, e3, g3⟩ := trod_hs h3
  obtain ⟨v4, l4, e4, g4⟩ := trod_evs h4
  obtain ⟨a5, e5, _, _⟩ := DataW.trod_int Try.underlying3 h5
  simp [cells3, cellsInts, cellsRows, cellsEvs] at e0 e1 e2 e3 e4 e5
  subst e0 e1 e2 e3 e4 e5
  refine ⟨⟨a0, a1, l2, l3, l4, a5⟩, c2, c3, c4, ?_, g2, g3, g4⟩
  rw [show cs = #[.int .i64 a0, .int .i64 a1, c2, c3, c4, .int .i64 a5] from by
    apply Array.toList_inj.1
    simpa [Value.cells] using hcs]
set_option maxRecDepth 100000 in
theorem open_op {H : Type} {enc : TypeId × Value → H} {w : World} {base b0 : Nat} {spare : Nat → Bool} {held : Bool} {r : Reach} {v : Value} {d : DataW H} {p : List MemPlace}
    (hv : Value.okWide Try.prog w r b0 28 v) (h : DataW.Trod enc Try.prog w base spare held 28 v d p) :
    ∃ c a b k : Int, v = .agg #[.int .i64 c, .int .i64 a, .int .i64 b, .int .i64 k] ∧ wfI c ∧ wfI a ∧ wfI b ∧ wfI k := by
  obtain ⟨cs, rfl, hsz⟩ := okWide_struct Try.underlying28 hv
  obtain ⟨fuel, hf⟩ := h
  obtain ⟨c, a, b, k, e, hw⟩ := trod_op hf
  refine ⟨c, a, b, k, ?_, hw⟩
  rw [show cs = #[.int .i64 c, .int .i64 a, .int .i64 b, .int .i64 k] from by
    apply Array.toList_inj.1
    simpa [Value.cells] using e]
end Go.Proofs.Ythjabkfnmcodbaa

