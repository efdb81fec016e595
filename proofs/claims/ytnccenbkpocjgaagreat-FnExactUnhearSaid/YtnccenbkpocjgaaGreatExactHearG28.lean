/- PBk, InsG, PBr -/
import Derived.Test.YtnccenbkpocjgaaGreatExactHearG26
import Derived.Test.YtnccenbkpocjgaaGreatExactHearG01
import Derived.Test.YtnccenbkpocjgaaGreatExactHearLInsD
import Derived.Test.YtnccenbkpocjgaaGreatExactHearG13
import Derived.Test.YtnccenbkpocjgaaGreatExactHearG15
/- Going back, as plain values: what is left, what is undone. -/
namespace Go.Proofs.YtnccenbkpocjgaaGreat
open Go.RowKit
def Pa.back (p : Pa) (j : Nat) : Pa := ⟨p.n, if j < p.p.length then (psAt p.p j).b else p.st, p.p.take j, (p.p.drop j).map Ps.e ++ p.t, p.a⟩
def undoL (l : List Ps) (j : Nat) : List Ev := ((l.drop j).flatMap Ps.s).reverse
theorem psAt_get {l : List Ps} {k : Nat} (h : k < l.length) : psAt l k = l[k] := by simp [psAt, h]
theorem drop_ps {l : List Ps} {k : Nat} (h : k < l.length) : l.drop k = psAt l k :: l.drop (k + 1) := by
 rw [psAt_get h]
 exact List.drop_eq_getElem_cons h
theorem back_all (p : Pa) : p.back p.p.length = p := by
 unfold Pa.back
 simp
theorem back_todo (p : Pa) {j : Nat} (h : j ≤ p.p.length) : (p.back j).t = p.all.drop j := by
 show (p.p.drop j).map Ps.e ++ p.t = (p.p.map Ps.e ++ p.t).drop j
 rw [List.drop_append_of_le_length (by simpa using h), List.map_drop]
theorem back_step (p : Pa) {k : Nat} (h : k < p.p.length) : (p.back k).t = (psAt p.p k).e :: (p.back (k + 1)).t := by
 show (p.p.drop k).map Ps.e ++ p.t = _ :: ((p.p.drop (k + 1)).map Ps.e ++ p.t)
 rw [drop_ps h]
 rfl
theorem back_st (p : Pa) {k : Nat} (h : k < p.p.length) : (p.back k).st = (psAt p.p k).b := by
 show (if k < p.p.length then _ else _) = _
 rw [if_pos h]
theorem undo_all (l : List Ps) : undoL l l.length = [] := by simp [undoL]
theorem undo_step {l : List Ps} {k : Nat} (h : k < l.length) : undoL l k = undoL l (k + 1) ++ (psAt l k).s.reverse := by
 unfold undoL
 rw [drop_ps h]
 simp
theorem all_chain {p : Pa} (hg : GoodP p) : ∀ i, i < p.all.length - 1 → (evAt p.all i).cmp (evAt p.all (i + 1)) < 0 := fun i hi => by
 obtain ⟨_, _, _, _, ⟨hok, _, hc, _⟩, _⟩ := hg
 exact (ecmp_iff (hok i (by omega)) (hok (i + 1) (by omega))).1 (hc i hi)
theorem back_ahead {p : Pa} (hg : GoodP p) {k : Nat} (h : k < p.p.length) {i : Nat} (hi : i < (p.back (k + 1)).t.length) : (psAt p.p k).e.cmp (evAt (p.back (k + 1)).t i) < 0 := by
 rw [back_todo p (by omega)] at hi ⊢
 rw [evAt_drop, ← all_done p h, show k + 1 + i = k + i + 1 from by omega]
 rw [List.length_drop] at hi
 exact chain_lt (all_chain hg) i k (by omega)
theorem back_ins {p : Pa} (hg : GoodP p) {k q : Nat} (h : k < p.p.length) (hq : InsAt (p.back (k + 1)).t (psAt p.p k).e q) : q = 0 := by
 obtain ⟨h1, h2, _⟩ := hq
 rcases Nat.eq_zero_or_pos q with e | e
 ·exact e
 ·exact absurd (h2 0 e) (cmp_asymm (back_ahead hg h (by omega)))
structure BackAt (l : List Ps) (e : Ev) (j : Nat) : Prop where
 le : j ≤ l.length
 hi : ∀ i, j ≤ i → i < l.length → ¬ (psAt l i).e.cmp e < 0
 lo : 0 < j → (psAt l (j - 1)).e.cmp e < 0
theorem BackAt.cut {p : Pa} {e : Ev} {j : Nat} (hg : GoodP p) (h : BackAt p.p e j) : j = cutK p.p e := by
 refine CutAt.same (l := p.p) (e := e) ⟨h.le, fun i hi => ?_, fun hj => h.hi j (Nat.le_refl _) hj⟩ (cutK_at p.p e)
 have hl := h.lo (by omega)
 by_cases hij : i = j - 1
 ·rw [hij]; exact hl
 ·have hle := h.le
  have hc := chain_lt (all_chain hg) (j - 1 - i - 1) i (by rw [all_length]; omega)
  rw [show i + (j - 1 - i - 1) + 1 = j - 1 from by omega, all_done p (by omega), all_done p (by omega)] at hc
  exact cmp_trans hc hl
theorem back_wt {p : Pa} (hg : GoodP p) (hw : p.wt ≤ 1048576) {j : Nat} (hj : j ≤ p.p.length) : (p.back j).wt ≤ 1048576 := by
 have h0 := take_wt p.p hj
 have h1 : (pastsD p.p).wt = p.p.length + sumL (fun i => (psAt p.p i).wt) p.p.length := pastsD_wt p.p
 have h2 := pastsD_wt (p.p.take j)
 have e0 : (intsD (p.back j).st.r).wt = (p.back j).st.r.length := ints_wt _
 have e1 : (evsD (p.back j).t).wt = (p.back j).t.length := evs_wt _
 have e2 := ints_wt p.st.r
 have e3 := evs_wt p.t
 have e4 : (p.back j).t.length = p.p.length - j + p.t.length := by simp [Pa.back]
 have e5 : (p.p.take j).length = j := by simp; omega
 unfold Pa.wt at hw ⊢
 obtain ⟨⟨g1, g2, g3⟩, _, _⟩ := hg
 have e6 := ints_wt p.a
 show (intsD (p.back j).st.r).wt + (pastsD (p.p.take j)).wt + (evsD (p.back j).t).wt + (intsD p.a).wt ≤ 1048576
 rw [e0, e1]
 have e7 : (p.back j).st.r.length + (pastsD (p.p.take j)).wt + (p.p.length - j) ≤ p.st.r.length + (pastsD p.p).wt := by
  by_cases hlt : j < p.p.length
  ·rw [back_st p hlt, h1, h2, e5]
   have e8 : sumL (fun i => (psAt (p.p.take j) i).wt) j = sumL (fun i => (psAt p.p i).wt) j := sumL_congr (fun i hi => by rw [psAt_take hi])
   rw [e8]
   have e9 := sumL_mono (fun i => (psAt p.p i).wt) (show j + 1 ≤ p.p.length from hlt)
   simp only [sumL] at e9
   have e10 : (psAt p.p j).b.r.length ≤ (psAt p.p j).wt := by
    have := ints_wt (psAt p.p j).b.r
    unfold Ps.wt
    omega
   omega
  ·obtain rfl : j = p.p.length := by omega
   rw [back_all]
   simp
 omega
theorem undo_len {p : Pa} {j : Nat} (hj : j ≤ p.p.length) : (undoL p.p j).length ≤ (pastsD p.p).wt := by
 have h1 : (pastsD p.p).wt = p.p.length + sumL (fun i => (psAt p.p i).wt) p.p.length := pastsD_wt p.p
 have h2 : ∀ d, d ≤ p.p.length → (undoL p.p (p.p.length - d)).length + sumL (fun i => (psAt p.p i).wt) (p.p.length - d) ≤ sumL (fun i => (psAt p.p i).wt) p.p.length := by
  intro d
  induction d with
  | zero => intro _; simp [undo_all]
  | succ d ih =>
   intro hd
   have hi := ih (by omega)
   rw [undo_step (k := p.p.length - (d + 1)) (by omega), show p.p.length - (d + 1) + 1 = p.p.length - d from by omega]
   rw [List.length_append, List.length_reverse]
   have e1 : sumL (fun i => (psAt p.p i).wt) (p.p.length - d) = sumL (fun i => (psAt p.p i).wt) (p.p.length - (d + 1)) + (psAt p.p (p.p.length - (d + 1))).wt := by
    rw [show p.p.length - d = p.p.length - (d + 1) + 1 from by omega]; rfl
   have e2 : (psAt p.p (p.p.length - (d + 1))).s.length ≤ (psAt p.p (p.p.length - (d + 1))).wt := by
    have := evs_wt (psAt p.p (p.p.length - (d + 1))).s
    unfold Ps.wt
    omega
   omega
 have h3 := h2 (p.p.length - j) (by omega)
 rw [show p.p.length - (p.p.length - j) = j from by omega] at h3
 omega
end Go.Proofs.YtnccenbkpocjgaaGreat

/- The specification's l1insert, on any list of events. -/
namespace Go.Proofs.YtnccenbkpocjgaaGreat
open Go.RowKit
theorem thInsG {P : Program} {md : Region.Mode} {ops : Array Oper} {Q : Exit → Act → World → Prop} {S : World → Prop} {fuel : Nat} {listed : Array Bool} {a : Act} {w : World} (i : Nat) (oi : Oper) (v : Value)
 (h : wpAnyH P md ops Q S fuel (listed.setIfInBounds i true) (a.put oi.dst v) w) (hi : ops[i]? = some oi := by rfl)
 (hs : Region.noSelect ops = true := by kernel_rfl) (hf : Region.free md ops listed i = true := by kernel_rfl) (hr : (Region.ready md ops listed).contains i = true := by kernel_rfl)
 (hQ : ∀ c a w, Q (.panic c) (a.put oi.dst v) w → Q (.panic c) a w := by exact fun _ _ _ h => h)
 (hy : YieldsIf P ops S oi v a := by exact Or.inl ⟨by rfl, by (intro wX hSw; (try dsimp only at hSw); go_simp; (try exact IntWalk.i64_in _ (by omega)))⟩) (hS : S w := by assumption) : wpAnyH P md ops Q S (fuel + 1) listed a w :=
 wpAnyH_take hi hs hf hr hQ hy hS h
theorem hidInsG {p : Prop} (h : p) : Hid p := h
theorem SrcC.ofEvs {w : World} {x : Value} {l : List Ev} (h : IsEvs w x l) : SrcC w x 7 l.length (cellsL l) := h.isD.srcEv
theorem evs_take {w : World} {a : Option Addr} {cap k : Nat} {l : List Ev} (h : IsEvs w (.slice a l.length cap) l) (hk : k ≤ l.length) : IsEvs w (sliced a 0 k cap 7) (l.take k) := by
 obtain ⟨a', cap', he, h1, h2, h⟩ := h
 obtain ⟨rfl, rfl⟩ : a = a' ∧ cap = cap' := by simpa using he
 unfold sliced
 have hl : (l.take k).length = k := by simp; omega
 rw [show k - 0 = (l.take k).length from by omega]
 by_cases hn : k = 0
 ·exact ⟨_, _, rfl, by omega, by omega, .inl (by subst hn; simp)⟩
 ·obtain ⟨b, off, rfl, hc⟩ := h.resolve_left (fun e => by subst e; simp at hk; omega)
  rw [if_neg (by omega)]
  refine ⟨_, _, rfl, by omega, by omega, .inr ⟨b, off, by simp [Addr.add_lit], hc.1, fun i hi => ?_⟩⟩
  have e : evAt (l.take k) i = evAt l i := by
   unfold evAt
   rw [List.getD_eq_getElem?_getD, List.getD_eq_getElem?_getD, List.getElem?_take_of_lt (by omega)]
  rw [e]
  exact hc.2 i (by omega)
theorem evs_drop {w : World} {a : Option Addr} {cap k : Nat} {l : List Ev} (h : IsEvs w (.slice a l.length cap) l) (hk : k ≤ l.length) : IsEvs w (sliced a k l.length cap 7) (l.drop k) := by
 obtain ⟨a', cap', he, h1, h2, h⟩ := h
 obtain ⟨rfl, rfl⟩ : a = a' ∧ cap = cap' := by simpa using he
 unfold sliced
 have hl : (l.drop k).length = l.length - k := by simp
 rw [show l.length - k = (l.drop k).length from by omega]
 by_cases hn : k = l.length
 ·exact ⟨_, _, rfl, by omega, by omega, .inl (by subst hn; simp)⟩
 ·obtain ⟨b, off, rfl, hc⟩ := h.resolve_left (fun e => by subst e; simp at hk hn; omega)
  rw [if_neg (by omega)]
  refine ⟨_, _, rfl, by omega, by omega, .inr ⟨b, off + k * 7, by simp [Addr.add_lit], hc.1, fun i hi => ?_⟩⟩
  rw [evAt_drop, show off + k * 7 + i * 7 = off + (k + i) * 7 from by omega]
  exact hc.2 (k + i) (by omega)
theorem infoEvE : (Tryz.prog.info? 55).map (fun i => (i.zero, i.size, i.bytes)) = some (some (.agg #[.int .i64 0, .int .i64 0, .int .i64 0, .int .i64 0, .int .i64 0, .int .i64 0, .int .i64 0]), 7, 56) := by kernel_rfl
theorem run_cutToE (a : Option Addr) (n cap k : Nat) (hk : k ≤ cap) (w : World) : (Instr.sliceAt 31 (.slice a n cap) none (some (.int .i64 (k : Int))) none).run Tryz.prog w = .ok (sliced a 0 k cap 7) w := by
 obtain ⟨i0, hi, hz0, hz1, hz2⟩ := info_parts infoEvE
 have hu : Tryz.prog.underlying 31 = some (.slice (Tryz.prog.elem 31)) := by kernel_rfl
 have he : Tryz.prog.elem 31 = 55 := by kernel_rfl
 rw [run_sliceAt_slice (h := hu), run_slice_h (ht := hu) (h0 := by omega) (h2 := by omega), he]
 simp [sizeOf, typeInfo, hi, hz1]
theorem run_cutFromE (a : Option Addr) (n cap k : Nat) (hk : k ≤ n) (w : World) : (Instr.sliceAt 31 (.slice a n cap) (some (.int .i64 (k : Int))) none none).run Tryz.prog w = .ok (sliced a k n cap 7) w := by
 obtain ⟨i0, hi, hz0, hz1, hz2⟩ := info_parts infoEvE
 have hu : Tryz.prog.underlying 31 = some (.slice (Tryz.prog.elem 31)) := by kernel_rfl
 have he : Tryz.prog.elem 31 = 55 := by kernel_rfl
 rw [run_sliceAt_slice (h := hu), run_slice_l (ht := hu) (h0 := by omega) (h1 := by omega), he]
 simp [sizeOf, typeInfo, hi, hz1]
theorem Bk.one {w : World} {g : Nat} {e : Ev} (h : Bk w g 55 #[.int .i64 e.t, .int .i64 e.s, .int .i64 e.q, .int .i64 e.d, .int .i64 e.k, .int .i64 e.v, .int .i64 e.g]) : SrcC w (.slice (some ⟨g, 0, none⟩) 1 1) 7 1 e.cs := by
 refine ⟨rfl, _, _, rfl, .inr ⟨g, 0, rfl, h.lt, fun j hj => ?_⟩⟩
 rw [Nat.zero_add]
 have : j = 0 ∨ j = 1 ∨ j = 2 ∨ j = 3 ∨ j = 4 ∨ j = 5 ∨ j = 6 := by omega
 rcases this with rfl | rfl | rfl | rfl | rfl | rfl | rfl <;> exact h.cell rfl
theorem keepE {W : World} {b : Nat} {e : Ev} (h : Bk W b 55 #[.int .i64 e.t, .int .i64 e.s, .int .i64 e.q, .int .i64 e.d, .int .i64 e.k, .int .i64 e.v, .int .i64 e.g]) : W.cell? ⟨b, 0, none⟩ = some (.int .i64 e.t) ∧ W.cell? ⟨b, 1, none⟩ = some (.int .i64 e.s) ∧ W.cell? ⟨b, 2, none⟩ = some (.int .i64 e.q) ∧ W.cell? ⟨b, 3, none⟩ = some (.int .i64 e.d) ∧ W.cell? ⟨b, 4, none⟩ = some (.int .i64 e.k) ∧ W.cell? ⟨b, 5, none⟩ = some (.int .i64 e.v) ∧ W.cell? ⟨b, 6, none⟩ = some (.int .i64 e.g) := ⟨h.cell rfl, h.cell rfl, h.cell rfl, h.cell rfl, h.cell rfl, h.cell rfl, h.cell rfl⟩
set_option maxRecDepth 100000 in
set_option maxHeartbeats 16000000 in
theorem insert_any (x : Value) (l : List Ev) (e : Ev) (w : World) (hl : l.length ≤ 1048577) (h : IsEvs w x l) :
  Calls Tryz.prog 89 #[x, e.val] w fun r w' => ∃ p x, r = .returned x ∧ InsAt l e p ∧ OwnR w.heap.size w' x (l.take p ++ e :: l.drop p) ∧ Below w.heap.size w w' := by
 obtain ⟨i0, hi, hz0, hz1, hz2⟩ := info_parts infoEvE
 have HI : Hid (IsEvs w x l) := h
 obtain ⟨a, cap, rfl, hcap, hmax, h⟩ := h
 have hmax2 : cap ≤ 9223372036854775807 := by unfold maxLen at hmax; omega
 obtain ⟨W0, hW0⟩ : ∃ W0, w.alloc (.cells #[.int .i64 e.t, .int .i64 e.s, .int .i64 e.q, .int .i64 e.d, .int .i64 e.k, .int .i64 e.v, .int .i64 e.g] 55) = W0 := ⟨_, rfl⟩
 have HE0 : Hid (Bk W0 w.heap.size 55 #[.int .i64 e.t, .int .i64 e.s, .int .i64 e.q, .int .i64 e.d, .int .i64 e.k, .int .i64 e.v, .int .i64 e.g]) := by rw [← hW0]; exact Bk.new _ _ _
 have HB0 : Hid (Below w.heap.size w W0) := by rw [← hW0]; exact (Below.refl _ w).alloc (Nat.le_refl _) _
 have hs0 : W0.heap.size ≤ w.heap.size + 1 ∧ w.heap.size + 1 ≤ W0.heap.size := by rw [← hW0]; simp
 have HC := hidInsG h
 clear h hmax
 go_enter Tryz.func89, Tryz.ntmps89
 go_wp2
 clear hW0
 go_loopw [5] (fun i wr => ∃ k : Nat, k ≤ l.length ∧ i = .int .i64 k ∧ Hid (Below W0.heap.size W0 wr) ∧ Hid (∀ j, j < k → (evAt l j).cmp e < 0)) (fun i _ => l.length - (intOf i).toNat)
 case atStart => exact ⟨0, Nat.zero_le _, rfl, Below.refl _ _, fun j hj => by omega⟩
 case round =>
  obtain ⟨k, hk, rfl, HB, HJ⟩ := hrel
  have hsz : W0.heap.size ≤ wr.heap.size := HB.out.size
  have hne : Nonempty (Beyond wr) := ⟨⟨wr, Below.refl _ _⟩⟩
  have HBw := hidInsG (HB0.out.trans (HB.out.mono (by omega)))
  have HE := hidInsG (HE0.out.below HB.out)
  by_cases hlt : k < l.length
  ·have hd : decide (k < l.length) = true := by simpa using hlt
   have hkn : (k : Int) < (l.length : Int) := by omega
   obtain ⟨b, off, rfl, hI⟩ := HC.out.resolve_left (fun e1 => by subst e1; simp at hlt)
   have HIw : Hid (EvsAt wr b off l) := hI.below HBw.out hI.1
   clear hI
   obtain ⟨f0, f1, f2, f3, f4, f5, f6⟩ := (HIw.out.2 k hlt).beyond HIw.out.1
   have g0 := HE.out.beyond (i := 0) rfl
   have g1 := HE.out.beyond (i := 1) rfl
   have g2 := HE.out.beyond (i := 2) rfl
   have g3 := HE.out.beyond (i := 3) rfl
   have g4 := HE.out.beyond (i := 4) rfl
   have g5 := HE.out.beyond (i := 5) rfl
   have g6 := HE.out.beyond (i := 6) rfl
   generalize hz : (evAt l k).cmp e = z
   have HZ := hidInsG hz
   clear hz
   by_cases hzl : z < 0
   ·have hdz : decide (z < 0) = true := by simpa using hzl
    go_wp2_with fail
    refine wp_region_beyond (by kernel_rfl) (by kernel_rfl) ?_
    repeat (go_big_quiet_step (first | (go_at_call 109; exact Beyond.of (l1cmp_ev (evAt l k) e z HZ.out _))))
    refine wpQuiet_nil ?_
    rintro w2 ⟨⟨_, hb2⟩, rfl⟩
    clear f0 f1 f2 f3 f4 f5 f6 g0 g1 g2 g3 g4 g5 g6
    go_wp2
    go_roundw
    case rel => exact ⟨k + 1, by omega, by go_num, HB.out.trans (hb2.mono hsz), fun j hj => by
     by_cases ej : j = k
     ·subst ej; rw [HZ.out]; exact hzl
     ·exact HJ.out j (by omega)⟩
    case measure => simp [intOf]; omega
   ·have hdz : decide (z < 0) = false := by simpa using hzl
    go_wp2_with fail
    refine wp_region_beyond (by kernel_rfl) (by kernel_rfl) ?_
    repeat (go_big_quiet_step (first | (go_at_call 109; exact Beyond.of (l1cmp_ev (evAt l k) e z HZ.out _))))
    refine wpQuiet_nil ?_
    rintro w2 ⟨⟨_, hb2⟩, rfl⟩
    clear f0 f1 f2 f3 f4 f5 f6 g0 g1 g2 g3 g4 g5 g6
    go_wp2
    have HB2 := hidInsG (HBw.out.trans (hb2.mono HBw.out.size))
    have HE2 := hidInsG (HE.out.below hb2)
    have hle2 : w.heap.size ≤ w2.heap.size := HB2.out.size
    have hlt2 : w.heap.size < w2.heap.size := HE2.out.lt
    clear hb2 HB HE HBw hne
    have hk8 : (k : Int) ≤ (l.length : Int) := by omega
    obtain ⟨V, hV⟩ : ∃ V, sliced (some ⟨b, off, none⟩) 0 k cap 7 = V := ⟨_, rfl⟩
    have hVD : IsEvs w V (l.take k) := hV ▸ evs_take HI.out hk
    have hsl : ∀ w : World, (Instr.sliceAt 31 (.slice (some ⟨b, off, none⟩) l.length cap) none (some (.int .i64 (k : Int))) none).run Tryz.prog w = .ok V w := fun w => hV ▸ run_cutToE _ _ _ _ (by omega) w
    obtain ⟨U, hU⟩ : ∃ U, sliced (some ⟨b, off, none⟩) k l.length cap 7 = U := ⟨_, rfl⟩
    have hUD : IsEvs w U (l.drop k) := hU ▸ evs_drop HI.out hk
    have hsl2 : ∀ w : World, (Instr.sliceAt 31 (.slice (some ⟨b, off, none⟩) l.length cap) (some (.int .i64 (k : Int))) none none).run Tryz.prog w = .ok U w := fun w => hU ▸ run_cutFromE _ _ _ _ hk w
    have hs1 := SrcC.ofEvs hVD
    have hs2 := SrcC.ofEvs hUD
    obtain ⟨av, cv, rfl, _⟩ := hVD
    obtain ⟨au, cu, rfl, _⟩ := hUD
    obtain ⟨m1, hm1⟩ : ∃ m, (l.take k).length = m := ⟨_, rfl⟩
    obtain ⟨m2, hm2⟩ : ∃ m, (l.drop k).length = m := ⟨_, rfl⟩
    have HM : Hid ((l.take k).length = m1 ∧ (l.drop k).length = m2) := ⟨hm1, hm2⟩
    have hm9 : m1 + m2 ≤ 1048577 := by rw [← hm1, ← hm2]; simp; omega
    rw [hm1] at hsl
    rw [hm2] at hsl2
    have HS1 : Hid (SrcC w (.slice av m1 cv) 7 m1 (cellsL (l.take k))) := by rw [hm1] at hs1; exact hs1
    have HS2 : Hid (SrcC w (.slice au m2 cu) 7 m2 (cellsL (l.drop k))) := by rw [hm2] at hs2; exact hs2
    have HINS : Hid (InsAt l e k) := ⟨hk, HJ.out, fun _ => by rw [HZ.out]; omega⟩
    clear hs1 hs2 hV hU hm1 hm2 HI HC HJ
    go_wp2_with fail
    have E_0 := hidInsG HE2.out.drew
    have B_0 : Hid (Below w2.heap.size w2 w2.drew) := (Below.refl _ w2).drew
    refine wp_region_held_drew (S := fun W => W.cell? ⟨w.heap.size, 0, none⟩ = some (.int .i64 e.t) ∧ W.cell? ⟨w.heap.size, 1, none⟩ = some (.int .i64 e.s) ∧ W.cell? ⟨w.heap.size, 2, none⟩ = some (.int .i64 e.q) ∧ W.cell? ⟨w.heap.size, 3, none⟩ = some (.int .i64 e.d) ∧ W.cell? ⟨w.heap.size, 4, none⟩ = some (.int .i64 e.k) ∧ W.cell? ⟨w.heap.size, 5, none⟩ = some (.int .i64 e.v) ∧ W.cell? ⟨w.heap.size, 6, none⟩ = some (.int .i64 e.g)) (by kernel_rfl) (keepE HE2.out.drew) (fun hHeld => ?_)
    refine thInsG 1 { dst := some 23, op := Op.move (Operand.tmp 0), type := 31, pos := _, after := _, guard := none } (.slice (some ⟨b, off, none⟩) l.length cap) ?_
    try simp only [Act.put, List.setIfInBounds_toArray, List.set_cons_zero, List.set_cons_succ]
    refine thInsG 2 { dst := some 24, op := Op.move (Operand.tmp 5), type := 3, pos := _, after := _, guard := none } (.int .i64 (k : Int)) ?_
    try simp only [Act.put, List.setIfInBounds_toArray, List.set_cons_zero, List.set_cons_succ]
    refine thInsG 5 { dst := some 27, op := Op.load 55 (Operand.tmp 3), type := 55, pos := _, after := _, guard := none } (.agg #[.int .i64 e.t, .int .i64 e.s, .int .i64 e.q, .int .i64 e.d, .int .i64 e.k, .int .i64 e.v, .int .i64 e.g]) ?_
    try simp only [Act.put, List.setIfInBounds_toArray, List.set_cons_zero, List.set_cons_succ]
    refine thInsG 3 { dst := some 25, op := Op.slice 31 (Operand.tmp 23) none (some (Operand.tmp 24)) none, type := 31, pos := _, after := _, guard := none } (.slice av m1 cv) ?_
    try simp only [Act.put, List.setIfInBounds_toArray, List.set_cons_zero, List.set_cons_succ]
    refine wpAnyH_ready (rs := [0, 6]) (by kernel_rfl) (by simp) ?_
    refine AllReadyH.cons (o := { dst := some 22, op := Op.buildSlice 31 0 #[], type := 31, pos := _, after := _, guard := none }) rfl (fun K hK => ?_) (AllReadyH.cons (o := { dst := some 28, op := Op.buildSlice 31 1 #[(0, Operand.tmp 27)], type := 31, pos := _, after := _, guard := none }) rfl (fun K hK => ?_) AllReadyH.nil)
    ·obtain ⟨g1, hg1⟩ : ∃ g, g = w2.heap.size := ⟨_, rfl⟩
     obtain ⟨v1, hv1⟩ : ∃ V, (w2.alloc (.cells #[] 55)).drew = V := ⟨_, rfl⟩
     have HW1 := hidInsG hv1
     have HG1 : Hid (g1 = w2.heap.size) := hg1
     have E_1 : Hid (Bk v1 w.heap.size 55 #[.int .i64 e.t, .int .i64 e.s, .int .i64 e.q, .int .i64 e.d, .int .i64 e.k, .int .i64 e.v, .int .i64 e.g]) := by (rw [← hv1]; exact E_0.out.alloc _)
     have B_1 : Hid (Below w2.heap.size w2 v1) := by (rw [← hv1]; exact B_0.out.alloc B_0.out.size _)
     have R_1 : Hid (v1.ownsRow w2.heap.size 55 7 (.slice (some ⟨g1, 0, none⟩) 0 0) 0 []) := by (rw [← hv1, hg1]; exact owns_mono (row_empty w2) (B_0.out.size))
     have hx1 : w2.heap.size ≤ g1 ∧ g1 ≤ w2.heap.size := by omega
     have hy1 : g1 < v1.heap.size := by (rw [← hv1, hg1]; exact (Bk.new w2 55 #[]).lt)
     clear hv1 hg1
     go_simp
     rw [HW1.out, ← HG1.out]
     refine hK.out _ _ (keepE E_1.out) (fun hHeld => ?_)
     clear hK K
     try simp only [Act.put, List.setIfInBounds_toArray, List.set_cons_zero, List.set_cons_succ]
     refine wpAnyH_ready (rs := [4, 6]) (by kernel_rfl) (by simp) ?_
     refine AllReadyH.cons (o := { dst := some 26, op := Op.call { callee := Callee.builtin Builtin.append, args := #[Operand.tmp 22, Operand.tmp 25], argTypes := #[31, 31] }, type := 31, pos := _, after := _, guard := none }) rfl (fun K hK => ?_) (AllReadyH.cons (o := { dst := some 28, op := Op.buildSlice 31 1 #[(0, Operand.tmp 27)], type := 31, pos := _, after := _, guard := none }) rfl (fun K hK => ?_) AllReadyH.nil)
     ·refine step_append_src (w := v1) rfl (.tmp 22) (.tmp 25) 31 rfl w2.heap.size 55 i0 (.agg #[.int .i64 0, .int .i64 0, .int .i64 0, .int .i64 0, .int .i64 0, .int .i64 0, .int .i64 0]) 7 56 Tryz.underlying31 hi hz0 hz1 hz2 rfl (by decide) (.slice (some ⟨g1, 0, none⟩) 0 0) (0) ([]) rfl R_1.out (.slice av m1 cv) (m1) (cellsL (l.take k)) rfl (HS1.out.below (HB2.out.trans (B_1.out.mono hle2))) (cellsL_one _) (by unfold maxLen; omega) (by omega) B_1.out.size ?_
      intro vn2 v2 hown hgrow hnew
      rw [Nat.zero_add, List.nil_append] at hown
      obtain ⟨aw2, cw2, hvw⟩ := owns_slice hown
      subst hvw
      have hgt := grown_turns hgrow
      have hzz2 : v1.heap.size ≤ v2.heap.size := hgrow.size
      have HRG2 : Hid (∀ b, (.slice (some ⟨g1, 0, none⟩) 0 0 : Value).ownBlock = some b → w2.heap.size ≤ b) := fun b hb => row_ge R_1.out hb
      have E_2 := hidInsG (E_1.out.turns hgt (fun e1 => by have := HRG2.out _ e1; omega))
      have B_2 := hidInsG (B_1.out.grown hgrow B_1.out.size (fun b e1 => HRG2.out b e1))
      have R_2 := hidInsG hown
      clear hown hgrow hnew hgt
      refine hK.out _ _ (keepE E_2.out) (fun hHeld => ?_)
      clear hK K
      try simp only [Act.put, List.setIfInBounds_toArray, List.set_cons_zero, List.set_cons_succ]
      refine wpAnyH_ready (rs := [6]) (by kernel_rfl) (by simp) ?_
      refine AllReadyH.cons (o := { dst := some 28, op := Op.buildSlice 31 1 #[(0, Operand.tmp 27)], type := 31, pos := _, after := _, guard := none }) rfl (fun K hK => ?_) AllReadyH.nil
      ·obtain ⟨g3, hg3⟩ : ∃ g, g = v2.heap.size := ⟨_, rfl⟩
       obtain ⟨v3, hv3⟩ : ∃ V, (v2.alloc (.cells #[.int .i64 e.t, .int .i64 e.s, .int .i64 e.q, .int .i64 e.d, .int .i64 e.k, .int .i64 e.v, .int .i64 e.g] 55)) = V := ⟨_, rfl⟩
       have HW3 := hidInsG hv3
       have HG3 : Hid (g3 = v2.heap.size) := hg3
       have E_3 : Hid (Bk v3 w.heap.size 55 #[.int .i64 e.t, .int .i64 e.s, .int .i64 e.q, .int .i64 e.d, .int .i64 e.k, .int .i64 e.v, .int .i64 e.g]) := by (rw [← hv3]; exact E_2.out.alloc _)
       have B_3 : Hid (Below w2.heap.size w2 v3) := by (rw [← hv3]; exact B_2.out.alloc B_2.out.size _)
       have R_3 : Hid (v3.ownsRow w2.heap.size 55 7 (.slice aw2 m1 cw2) m1 (cellsL (l.take k))) := by (rw [← hv3]; exact R_2.out.alloc _)
       have O_3 : Hid (Bk v3 g3 55 #[.int .i64 e.t, .int .i64 e.s, .int .i64 e.q, .int .i64 e.d, .int .i64 e.k, .int .i64 e.v, .int .i64 e.g]) := by (rw [← hv3, hg3]; exact Bk.new v2 _ _)
       have HNQ3 : Hid (∀ b, (.slice aw2 m1 cw2 : Value).ownBlock = some b → b ≠ g3) := fun b hb e1 => by have := owns_lt R_2.out hb; have := hg3; simp at *; omega
       have hx3 : v2.heap.size ≤ g3 ∧ g3 ≤ v2.heap.size := by omega
       have hy3 : g3 < v3.heap.size := by (rw [← hv3, hg3]; exact (Bk.new v2 55 #[.int .i64 e.t, .int .i64 e.s, .int .i64 e.q, .int .i64 e.d, .int .i64 e.k, .int .i64 e.v, .int .i64 e.g]).lt)
       clear hv3 hg3
       go_simp
       rw [HW3.out, ← HG3.out]
       refine hK.out _ _ (keepE E_3.out) (fun hHeld => ?_)
       clear hK K
       try simp only [Act.put, List.setIfInBounds_toArray, List.set_cons_zero, List.set_cons_succ]
       refine wpAnyH_ready (rs := [7]) (by kernel_rfl) (by simp) ?_
       refine AllReadyH.cons (o := { dst := some 29, op := Op.call { callee := Callee.builtin Builtin.append, args := #[Operand.tmp 26, Operand.tmp 28], argTypes := #[31, 31] }, type := 31, pos := _, after := _, guard := none }) rfl (fun K hK => ?_) AllReadyH.nil
       ·refine step_append_src (w := v3) rfl (.tmp 26) (.tmp 28) 31 rfl w2.heap.size 55 i0 (.agg #[.int .i64 0, .int .i64 0, .int .i64 0, .int .i64 0, .int .i64 0, .int .i64 0, .int .i64 0]) 7 56 Tryz.underlying31 hi hz0 hz1 hz2 rfl (by decide) (.slice aw2 m1 cw2) (m1) ((cellsL (l.take k))) rfl R_3.out (.slice (some ⟨g3, 0, none⟩) 1 1) (1) e.cs rfl O_3.out.one (Ev.cs_one e) (by unfold maxLen; omega) (by omega) B_3.out.size ?_
        intro vn4 v4 hown hgrow hnew
        obtain ⟨aw4, cw4, hvw⟩ := owns_slice hown
        subst hvw
        have hgt := grown_turns hgrow
        have hzz4 : v3.heap.size ≤ v4.heap.size := hgrow.size
        have HRG4 : Hid (∀ b, (.slice aw2 m1 cw2 : Value).ownBlock = some b → w2.heap.size ≤ b) := fun b hb => row_ge R_3.out hb
        have HNE4 : Hid (∀ b, (.slice aw2 m1 cw2 : Value).ownBlock = some b → b ≠ g3) := fun b hb e1 => HNQ3.out b hb e1
        have E_4 := hidInsG (E_3.out.turns hgt (fun e1 => by have := HRG4.out _ e1; omega))
        have B_4 := hidInsG (B_3.out.grown hgrow B_3.out.size (fun b e1 => HRG4.out b e1))
        have O_4 := hidInsG (O_3.out.turns hgt (fun e1 => HNE4.out _ e1 rfl))
        have R_4 := hidInsG hown
        clear hown hgrow hnew hgt
        refine hK.out _ _ (keepE E_4.out) (fun hHeld => ?_)
        clear hK K
        try simp only [Act.put, List.setIfInBounds_toArray, List.set_cons_zero, List.set_cons_succ]
        refine thInsG 8 { dst := some 6, op := Op.assign (Operand.tmp 29), type := 31, pos := _, after := _, guard := none } (.slice aw4 (m1 + 1) cw4) ?_
        try simp only [Act.put, List.setIfInBounds_toArray, List.set_cons_zero, List.set_cons_succ]
        refine wpAnyH_done (by kernel_rfl) ?_ _
        clear hHeld
        go_wp2_with (at_builtin; refine wpList_append_src _ rfl _ _ 31 rfl w2.heap.size 55 i0 (.agg #[.int .i64 0, .int .i64 0, .int .i64 0, .int .i64 0, .int .i64 0, .int .i64 0, .int .i64 0]) 7 56 Tryz.underlying31 hi hz0 hz1 hz2 rfl (by decide) (.slice aw4 (m1 + 1) cw4) ((m1 + 1)) (((cellsL (l.take k)) ++ e.cs)) rfl R_4.out (.slice au m2 cu) m2 (cellsL (l.drop k)) rfl (HS2.out.below (HB2.out.trans (B_4.out.mono hle2))) (cellsL_one _) (by unfold maxLen; omega) (by omega) B_4.out.size ?_; intro vn wn hown hgrow hnew)
        go_ret
        refine ⟨k, vn, rfl, HINS.out, OwnR.mono (show OwnR w2.heap.size _ _ _ from ?_) hle2, HB2.out.trans ((B_4.out.grown hgrow B_4.out.size (fun b e1 => row_ge R_4.out e1)).mono hle2)⟩
        have hlen : (l.take k ++ e :: l.drop k).length = (m1 + 1) + m2 := by rw [← HM.out.1, ← HM.out.2]; simp; omega
        unfold OwnR
        rw [hlen, cellsL_append]
        show World.ownsRow _ _ _ _ _ _ (cellsL (l.take k) ++ (e.cs ++ cellsL (l.drop k)))
        rw [← List.append_assoc]
        simpa using hown
     ·obtain ⟨g5, hg5⟩ : ∃ g, g = v1.heap.size := ⟨_, rfl⟩
      obtain ⟨v5, hv5⟩ : ∃ V, (v1.alloc (.cells #[.int .i64 e.t, .int .i64 e.s, .int .i64 e.q, .int .i64 e.d, .int .i64 e.k, .int .i64 e.v, .int .i64 e.g] 55)) = V := ⟨_, rfl⟩
      have HW5 := hidInsG hv5
      have HG5 : Hid (g5 = v1.heap.size) := hg5
      have E_5 : Hid (Bk v5 w.heap.size 55 #[.int .i64 e.t, .int .i64 e.s, .int .i64 e.q, .int .i64 e.d, .int .i64 e.k, .int .i64 e.v, .int .i64 e.g]) := by (rw [← hv5]; exact E_1.out.alloc _)
      have B_5 : Hid (Below w2.heap.size w2 v5) := by (rw [← hv5]; exact B_1.out.alloc B_1.out.size _)
      have R_5 : Hid (v5.ownsRow w2.heap.size 55 7 (.slice (some ⟨g1, 0, none⟩) 0 0) 0 []) := by (rw [← hv5]; exact R_1.out.alloc _)
      have O_5 : Hid (Bk v5 g5 55 #[.int .i64 e.t, .int .i64 e.s, .int .i64 e.q, .int .i64 e.d, .int .i64 e.k, .int .i64 e.v, .int .i64 e.g]) := by (rw [← hv5, hg5]; exact Bk.new v1 _ _)
      have HNQ5 : Hid (∀ b, (.slice (some ⟨g1, 0, none⟩) 0 0 : Value).ownBlock = some b → b ≠ g5) := fun b hb e1 => by have := owns_lt R_1.out hb; have := hg5; simp at *; omega
      have hx5 : v1.heap.size ≤ g5 ∧ g5 ≤ v1.heap.size := by omega
      have hy5 : g5 < v5.heap.size := by (rw [← hv5, hg5]; exact (Bk.new v1 55 #[.int .i64 e.t, .int .i64 e.s, .int .i64 e.q, .int .i64 e.d, .int .i64 e.k, .int .i64 e.v, .int .i64 e.g]).lt)
      clear hv5 hg5
      go_simp
      rw [HW5.out, ← HG5.out]
      refine hK.out _ _ (keepE E_5.out) (fun hHeld => ?_)
      clear hK K
      try simp only [Act.put, List.setIfInBounds_toArray, List.set_cons_zero, List.set_cons_succ]
      refine wpAnyH_ready (rs := [4]) (by kernel_rfl) (by simp) ?_
      refine AllReadyH.cons (o := { dst := some 26, op := Op.call { callee := Callee.builtin Builtin.append, args := #[Operand.tmp 22, Operand.tmp 25], argTypes := #[31, 31] }, type := 31, pos := _, after := _, guard := none }) rfl (fun K hK => ?_) AllReadyH.nil
      ·refine step_append_src (w := v5) rfl (.tmp 22) (.tmp 25) 31 rfl w2.heap.size 55 i0 (.agg #[.int .i64 0, .int .i64 0, .int .i64 0, .int .i64 0, .int .i64 0, .int .i64 0, .int .i64 0]) 7 56 Tryz.underlying31 hi hz0 hz1 hz2 rfl (by decide) (.slice (some ⟨g1, 0, none⟩) 0 0) (0) ([]) rfl R_5.out (.slice av m1 cv) (m1) (cellsL (l.take k)) rfl (HS1.out.below (HB2.out.trans (B_5.out.mono hle2))) (cellsL_one _) (by unfold maxLen; omega) (by omega) B_5.out.size ?_
       intro vn6 v6 hown hgrow hnew
       rw [Nat.zero_add, List.nil_append] at hown
       obtain ⟨aw6, cw6, hvw⟩ := owns_slice hown
       subst hvw
       have hgt := grown_turns hgrow
       have hzz6 : v5.heap.size ≤ v6.heap.size := hgrow.size
       have HRG6 : Hid (∀ b, (.slice (some ⟨g1, 0, none⟩) 0 0 : Value).ownBlock = some b → w2.heap.size ≤ b) := fun b hb => row_ge R_5.out hb
       have HNE6 : Hid (∀ b, (.slice (some ⟨g1, 0, none⟩) 0 0 : Value).ownBlock = some b → b ≠ g5) := fun b hb e1 => HNQ5.out b hb e1
       have E_6 := hidInsG (E_5.out.turns hgt (fun e1 => by have := HRG6.out _ e1; omega))
       have B_6 := hidInsG (B_5.out.grown hgrow B_5.out.size (fun b e1 => HRG6.out b e1))
       have O_6 := hidInsG (O_5.out.turns hgt (fun e1 => HNE6.out _ e1 rfl))
       have R_6 := hidInsG hown
       have HNQ6 : Hid (∀ b, (Value.slice aw6 m1 cw6).ownBlock = some b → b ≠ g5) := fun b hb e1 => by rcases hnew with h9 | h9; exact HNE6.out b (h9 ▸ hb) e1; have := h9 b hb; have := O_6.out.lt; omega
       clear hown hgrow hnew hgt
       refine hK.out _ _ (keepE E_6.out) (fun hHeld => ?_)
       clear hK K
       try simp only [Act.put, List.setIfInBounds_toArray, List.set_cons_zero, List.set_cons_succ]
       refine wpAnyH_ready (rs := [7]) (by kernel_rfl) (by simp) ?_
       refine AllReadyH.cons (o := { dst := some 29, op := Op.call { callee := Callee.builtin Builtin.append, args := #[Operand.tmp 26, Operand.tmp 28], argTypes := #[31, 31] }, type := 31, pos := _, after := _, guard := none }) rfl (fun K hK => ?_) AllReadyH.nil
       ·refine step_append_src (w := v6) rfl (.tmp 26) (.tmp 28) 31 rfl w2.heap.size 55 i0 (.agg #[.int .i64 0, .int .i64 0, .int .i64 0, .int .i64 0, .int .i64 0, .int .i64 0, .int .i64 0]) 7 56 Tryz.underlying31 hi hz0 hz1 hz2 rfl (by decide) (.slice aw6 m1 cw6) (m1) ((cellsL (l.take k))) rfl R_6.out (.slice (some ⟨g5, 0, none⟩) 1 1) (1) e.cs rfl O_6.out.one (Ev.cs_one e) (by unfold maxLen; omega) (by omega) B_6.out.size ?_
        intro vn7 v7 hown hgrow hnew
        obtain ⟨aw7, cw7, hvw⟩ := owns_slice hown
        subst hvw
        have hgt := grown_turns hgrow
        have hzz7 : v6.heap.size ≤ v7.heap.size := hgrow.size
        have HRG7 : Hid (∀ b, (.slice aw6 m1 cw6 : Value).ownBlock = some b → w2.heap.size ≤ b) := fun b hb => row_ge R_6.out hb
        have HNE7 : Hid (∀ b, (.slice aw6 m1 cw6 : Value).ownBlock = some b → b ≠ g5) := fun b hb e1 => HNQ6.out b hb e1
        have E_7 := hidInsG (E_6.out.turns hgt (fun e1 => by have := HRG7.out _ e1; omega))
        have B_7 := hidInsG (B_6.out.grown hgrow B_6.out.size (fun b e1 => HRG7.out b e1))
        have O_7 := hidInsG (O_6.out.turns hgt (fun e1 => HNE7.out _ e1 rfl))
        have R_7 := hidInsG hown
        clear hown hgrow hnew hgt
        refine hK.out _ _ (keepE E_7.out) (fun hHeld => ?_)
        clear hK K
        try simp only [Act.put, List.setIfInBounds_toArray, List.set_cons_zero, List.set_cons_succ]
        refine thInsG 8 { dst := some 6, op := Op.assign (Operand.tmp 29), type := 31, pos := _, after := _, guard := none } (.slice aw7 (m1 + 1) cw7) ?_
        try simp only [Act.put, List.setIfInBounds_toArray, List.set_cons_zero, List.set_cons_succ]
        refine wpAnyH_done (by kernel_rfl) ?_ _
        clear hHeld
        go_wp2_with (at_builtin; refine wpList_append_src _ rfl _ _ 31 rfl w2.heap.size 55 i0 (.agg #[.int .i64 0, .int .i64 0, .int .i64 0, .int .i64 0, .int .i64 0, .int .i64 0, .int .i64 0]) 7 56 Tryz.underlying31 hi hz0 hz1 hz2 rfl (by decide) (.slice aw7 (m1 + 1) cw7) ((m1 + 1)) (((cellsL (l.take k)) ++ e.cs)) rfl R_7.out (.slice au m2 cu) m2 (cellsL (l.drop k)) rfl (HS2.out.below (HB2.out.trans (B_7.out.mono hle2))) (cellsL_one _) (by unfold maxLen; omega) (by omega) B_7.out.size ?_; intro vn wn hown hgrow hnew)
        go_ret
        refine ⟨k, vn, rfl, HINS.out, OwnR.mono (show OwnR w2.heap.size _ _ _ from ?_) hle2, HB2.out.trans ((B_7.out.grown hgrow B_7.out.size (fun b e1 => row_ge R_7.out e1)).mono hle2)⟩
        have hlen : (l.take k ++ e :: l.drop k).length = (m1 + 1) + m2 := by rw [← HM.out.1, ← HM.out.2]; simp; omega
        unfold OwnR
        rw [hlen, cellsL_append]
        show World.ownsRow _ _ _ _ _ _ (cellsL (l.take k) ++ (e.cs ++ cellsL (l.drop k)))
        rw [← List.append_assoc]
        simpa using hown
    ·obtain ⟨g8, hg8⟩ : ∃ g, g = w2.heap.size := ⟨_, rfl⟩
     obtain ⟨v8, hv8⟩ : ∃ V, (w2.alloc (.cells #[.int .i64 e.t, .int .i64 e.s, .int .i64 e.q, .int .i64 e.d, .int .i64 e.k, .int .i64 e.v, .int .i64 e.g] 55)).drew = V := ⟨_, rfl⟩
     have HW8 := hidInsG hv8
     have HG8 : Hid (g8 = w2.heap.size) := hg8
     have E_8 : Hid (Bk v8 w.heap.size 55 #[.int .i64 e.t, .int .i64 e.s, .int .i64 e.q, .int .i64 e.d, .int .i64 e.k, .int .i64 e.v, .int .i64 e.g]) := by (rw [← hv8]; exact E_0.out.alloc _)
     have B_8 : Hid (Below w2.heap.size w2 v8) := by (rw [← hv8]; exact B_0.out.alloc B_0.out.size _)
     have O_8 : Hid (Bk v8 g8 55 #[.int .i64 e.t, .int .i64 e.s, .int .i64 e.q, .int .i64 e.d, .int .i64 e.k, .int .i64 e.v, .int .i64 e.g]) := by (rw [← hv8, hg8]; exact Bk.new w2 _ _)
     have hx8 : w2.heap.size ≤ g8 ∧ g8 ≤ w2.heap.size := by omega
     have hy8 : g8 < v8.heap.size := by (rw [← hv8, hg8]; exact (Bk.new w2 55 #[.int .i64 e.t, .int .i64 e.s, .int .i64 e.q, .int .i64 e.d, .int .i64 e.k, .int .i64 e.v, .int .i64 e.g]).lt)
     clear hv8 hg8
     go_simp
     rw [HW8.out, ← HG8.out]
     refine hK.out _ _ (keepE E_8.out) (fun hHeld => ?_)
     clear hK K
     try simp only [Act.put, List.setIfInBounds_toArray, List.set_cons_zero, List.set_cons_succ]
     refine wpAnyH_ready (rs := [0]) (by kernel_rfl) (by simp) ?_
     refine AllReadyH.cons (o := { dst := some 22, op := Op.buildSlice 31 0 #[], type := 31, pos := _, after := _, guard := none }) rfl (fun K hK => ?_) AllReadyH.nil
     ·obtain ⟨g9, hg9⟩ : ∃ g, g = v8.heap.size := ⟨_, rfl⟩
      obtain ⟨v9, hv9⟩ : ∃ V, (v8.alloc (.cells #[] 55)) = V := ⟨_, rfl⟩
      have HW9 := hidInsG hv9
      have HG9 : Hid (g9 = v8.heap.size) := hg9
      have E_9 : Hid (Bk v9 w.heap.size 55 #[.int .i64 e.t, .int .i64 e.s, .int .i64 e.q, .int .i64 e.d, .int .i64 e.k, .int .i64 e.v, .int .i64 e.g]) := by (rw [← hv9]; exact E_8.out.alloc _)
      have B_9 : Hid (Below w2.heap.size w2 v9) := by (rw [← hv9]; exact B_8.out.alloc B_8.out.size _)
      have O_9 : Hid (Bk v9 g8 55 #[.int .i64 e.t, .int .i64 e.s, .int .i64 e.q, .int .i64 e.d, .int .i64 e.k, .int .i64 e.v, .int .i64 e.g]) := by (rw [← hv9]; exact O_8.out.alloc _)
      have R_9 : Hid (v9.ownsRow w2.heap.size 55 7 (.slice (some ⟨g9, 0, none⟩) 0 0) 0 []) := by (rw [← hv9, hg9]; exact owns_mono (row_empty v8) (B_8.out.size))
      have hx9 : v8.heap.size ≤ g9 ∧ g9 ≤ v8.heap.size := by omega
      have hy9 : g9 < v9.heap.size := by (rw [← hv9, hg9]; exact (Bk.new v8 55 #[]).lt)
      clear hv9 hg9
      go_simp
      rw [HW9.out, ← HG9.out]
      refine hK.out _ _ (keepE E_9.out) (fun hHeld => ?_)
      clear hK K
      try simp only [Act.put, List.setIfInBounds_toArray, List.set_cons_zero, List.set_cons_succ]
      refine wpAnyH_ready (rs := [4]) (by kernel_rfl) (by simp) ?_
      refine AllReadyH.cons (o := { dst := some 26, op := Op.call { callee := Callee.builtin Builtin.append, args := #[Operand.tmp 22, Operand.tmp 25], argTypes := #[31, 31] }, type := 31, pos := _, after := _, guard := none }) rfl (fun K hK => ?_) AllReadyH.nil
      ·refine step_append_src (w := v9) rfl (.tmp 22) (.tmp 25) 31 rfl w2.heap.size 55 i0 (.agg #[.int .i64 0, .int .i64 0, .int .i64 0, .int .i64 0, .int .i64 0, .int .i64 0, .int .i64 0]) 7 56 Tryz.underlying31 hi hz0 hz1 hz2 rfl (by decide) (.slice (some ⟨g9, 0, none⟩) 0 0) (0) ([]) rfl R_9.out (.slice av m1 cv) (m1) (cellsL (l.take k)) rfl (HS1.out.below (HB2.out.trans (B_9.out.mono hle2))) (cellsL_one _) (by unfold maxLen; omega) (by omega) B_9.out.size ?_
       intro vn10 v10 hown hgrow hnew
       rw [Nat.zero_add, List.nil_append] at hown
       obtain ⟨aw10, cw10, hvw⟩ := owns_slice hown
       subst hvw
       have hgt := grown_turns hgrow
       have hzz10 : v9.heap.size ≤ v10.heap.size := hgrow.size
       have HRG10 : Hid (∀ b, (.slice (some ⟨g9, 0, none⟩) 0 0 : Value).ownBlock = some b → w2.heap.size ≤ b) := fun b hb => row_ge R_9.out hb
       have HNE10 : Hid (∀ b, (.slice (some ⟨g9, 0, none⟩) 0 0 : Value).ownBlock = some b → b ≠ g8) := fun b hb e1 => by simp [Value.ownBlock] at hb; omega
       have E_10 := hidInsG (E_9.out.turns hgt (fun e1 => by have := HRG10.out _ e1; omega))
       have B_10 := hidInsG (B_9.out.grown hgrow B_9.out.size (fun b e1 => HRG10.out b e1))
       have O_10 := hidInsG (O_9.out.turns hgt (fun e1 => HNE10.out _ e1 rfl))
       have R_10 := hidInsG hown
       have HNQ10 : Hid (∀ b, (Value.slice aw10 m1 cw10).ownBlock = some b → b ≠ g8) := fun b hb e1 => by rcases hnew with h9 | h9; exact HNE10.out b (h9 ▸ hb) e1; have := h9 b hb; have := O_10.out.lt; omega
       clear hown hgrow hnew hgt
       refine hK.out _ _ (keepE E_10.out) (fun hHeld => ?_)
       clear hK K
       try simp only [Act.put, List.setIfInBounds_toArray, List.set_cons_zero, List.set_cons_succ]
       refine wpAnyH_ready (rs := [7]) (by kernel_rfl) (by simp) ?_
       refine AllReadyH.cons (o := { dst := some 29, op := Op.call { callee := Callee.builtin Builtin.append, args := #[Operand.tmp 26, Operand.tmp 28], argTypes := #[31, 31] }, type := 31, pos := _, after := _, guard := none }) rfl (fun K hK => ?_) AllReadyH.nil
       ·refine step_append_src (w := v10) rfl (.tmp 26) (.tmp 28) 31 rfl w2.heap.size 55 i0 (.agg #[.int .i64 0, .int .i64 0, .int .i64 0, .int .i64 0, .int .i64 0, .int .i64 0, .int .i64 0]) 7 56 Tryz.underlying31 hi hz0 hz1 hz2 rfl (by decide) (.slice aw10 m1 cw10) (m1) ((cellsL (l.take k))) rfl R_10.out (.slice (some ⟨g8, 0, none⟩) 1 1) (1) e.cs rfl O_10.out.one (Ev.cs_one e) (by unfold maxLen; omega) (by omega) B_10.out.size ?_
        intro vn11 v11 hown hgrow hnew
        obtain ⟨aw11, cw11, hvw⟩ := owns_slice hown
        subst hvw
        have hgt := grown_turns hgrow
        have hzz11 : v10.heap.size ≤ v11.heap.size := hgrow.size
        have HRG11 : Hid (∀ b, (.slice aw10 m1 cw10 : Value).ownBlock = some b → w2.heap.size ≤ b) := fun b hb => row_ge R_10.out hb
        have HNE11 : Hid (∀ b, (.slice aw10 m1 cw10 : Value).ownBlock = some b → b ≠ g8) := fun b hb e1 => HNQ10.out b hb e1
        have E_11 := hidInsG (E_10.out.turns hgt (fun e1 => by have := HRG11.out _ e1; omega))
        have B_11 := hidInsG (B_10.out.grown hgrow B_10.out.size (fun b e1 => HRG11.out b e1))
        have O_11 := hidInsG (O_10.out.turns hgt (fun e1 => HNE11.out _ e1 rfl))
        have R_11 := hidInsG hown
        clear hown hgrow hnew hgt
        refine hK.out _ _ (keepE E_11.out) (fun hHeld => ?_)
        clear hK K
        try simp only [Act.put, List.setIfInBounds_toArray, List.set_cons_zero, List.set_cons_succ]
        refine thInsG 8 { dst := some 6, op := Op.assign (Operand.tmp 29), type := 31, pos := _, after := _, guard := none } (.slice aw11 (m1 + 1) cw11) ?_
        try simp only [Act.put, List.setIfInBounds_toArray, List.set_cons_zero, List.set_cons_succ]
        refine wpAnyH_done (by kernel_rfl) ?_ _
        clear hHeld
        go_wp2_with (at_builtin; refine wpList_append_src _ rfl _ _ 31 rfl w2.heap.size 55 i0 (.agg #[.int .i64 0, .int .i64 0, .int .i64 0, .int .i64 0, .int .i64 0, .int .i64 0, .int .i64 0]) 7 56 Tryz.underlying31 hi hz0 hz1 hz2 rfl (by decide) (.slice aw11 (m1 + 1) cw11) ((m1 + 1)) (((cellsL (l.take k)) ++ e.cs)) rfl R_11.out (.slice au m2 cu) m2 (cellsL (l.drop k)) rfl (HS2.out.below (HB2.out.trans (B_11.out.mono hle2))) (cellsL_one _) (by unfold maxLen; omega) (by omega) B_11.out.size ?_; intro vn wn hown hgrow hnew)
        go_ret
        refine ⟨k, vn, rfl, HINS.out, OwnR.mono (show OwnR w2.heap.size _ _ _ from ?_) hle2, HB2.out.trans ((B_11.out.grown hgrow B_11.out.size (fun b e1 => row_ge R_11.out e1)).mono hle2)⟩
        have hlen : (l.take k ++ e :: l.drop k).length = (m1 + 1) + m2 := by rw [← HM.out.1, ← HM.out.2]; simp; omega
        unfold OwnR
        rw [hlen, cellsL_append]
        show World.ownsRow _ _ _ _ _ _ (cellsL (l.take k) ++ (e.cs ++ cellsL (l.drop k)))
        rw [← List.append_assoc]
        simpa using hown
  ·have hd : decide (k < l.length) = false := by simp; omega
   have hd2 : ¬ ((k : Int) < (l.length : Int)) := by omega
   go_wp2_with fail
   refine wp_region_beyond (by kernel_rfl) (by kernel_rfl) ?_
   repeat (go_big_quiet_step (fail))
   refine wpQuiet_nil ?_
   rintro w2 ⟨⟨_, hb2⟩, rfl⟩
   go_wp2
   have HB2 := hidInsG (HBw.out.trans (hb2.mono HBw.out.size))
   have HE2 := hidInsG (HE.out.below hb2)
   have hle2 : w.heap.size ≤ w2.heap.size := HB2.out.size
   have hlt2 : w.heap.size < w2.heap.size := HE2.out.lt
   clear hb2 HB HE HBw hne
   have hk8 : (k : Int) ≤ (l.length : Int) := by omega
   obtain ⟨V, hV⟩ : ∃ V, sliced a 0 k cap 7 = V := ⟨_, rfl⟩
   have hVD : IsEvs w V (l.take k) := hV ▸ evs_take HI.out hk
   have hsl : ∀ w : World, (Instr.sliceAt 31 (.slice a l.length cap) none (some (.int .i64 (k : Int))) none).run Tryz.prog w = .ok V w := fun w => hV ▸ run_cutToE _ _ _ _ (by omega) w
   obtain ⟨U, hU⟩ : ∃ U, sliced a k l.length cap 7 = U := ⟨_, rfl⟩
   have hUD : IsEvs w U (l.drop k) := hU ▸ evs_drop HI.out hk
   have hsl2 : ∀ w : World, (Instr.sliceAt 31 (.slice a l.length cap) (some (.int .i64 (k : Int))) none none).run Tryz.prog w = .ok U w := fun w => hU ▸ run_cutFromE _ _ _ _ hk w
   have hs1 := SrcC.ofEvs hVD
   have hs2 := SrcC.ofEvs hUD
   obtain ⟨av, cv, rfl, _⟩ := hVD
   obtain ⟨au, cu, rfl, _⟩ := hUD
   obtain ⟨m1, hm1⟩ : ∃ m, (l.take k).length = m := ⟨_, rfl⟩
   obtain ⟨m2, hm2⟩ : ∃ m, (l.drop k).length = m := ⟨_, rfl⟩
   have HM : Hid ((l.take k).length = m1 ∧ (l.drop k).length = m2) := ⟨hm1, hm2⟩
   have hm9 : m1 + m2 ≤ 1048577 := by rw [← hm1, ← hm2]; simp; omega
   rw [hm1] at hsl
   rw [hm2] at hsl2
   have HS1 : Hid (SrcC w (.slice av m1 cv) 7 m1 (cellsL (l.take k))) := by rw [hm1] at hs1; exact hs1
   have HS2 : Hid (SrcC w (.slice au m2 cu) 7 m2 (cellsL (l.drop k))) := by rw [hm2] at hs2; exact hs2
   have HINS : Hid (InsAt l e k) := ⟨hk, HJ.out, fun h => absurd h hlt⟩
   clear hs1 hs2 hV hU hm1 hm2 HI HC HJ
   go_wp2_with fail
   have E_0 := hidInsG HE2.out.drew
   have B_0 : Hid (Below w2.heap.size w2 w2.drew) := (Below.refl _ w2).drew
   refine wp_region_held_drew (S := fun W => W.cell? ⟨w.heap.size, 0, none⟩ = some (.int .i64 e.t) ∧ W.cell? ⟨w.heap.size, 1, none⟩ = some (.int .i64 e.s) ∧ W.cell? ⟨w.heap.size, 2, none⟩ = some (.int .i64 e.q) ∧ W.cell? ⟨w.heap.size, 3, none⟩ = some (.int .i64 e.d) ∧ W.cell? ⟨w.heap.size, 4, none⟩ = some (.int .i64 e.k) ∧ W.cell? ⟨w.heap.size, 5, none⟩ = some (.int .i64 e.v) ∧ W.cell? ⟨w.heap.size, 6, none⟩ = some (.int .i64 e.g)) (by kernel_rfl) (keepE HE2.out.drew) (fun hHeld => ?_)
   refine thInsG 1 { dst := some 23, op := Op.move (Operand.tmp 0), type := 31, pos := _, after := _, guard := none } (.slice a l.length cap) ?_
   try simp only [Act.put, List.setIfInBounds_toArray, List.set_cons_zero, List.set_cons_succ]
   refine thInsG 2 { dst := some 24, op := Op.move (Operand.tmp 5), type := 3, pos := _, after := _, guard := none } (.int .i64 (k : Int)) ?_
   try simp only [Act.put, List.setIfInBounds_toArray, List.set_cons_zero, List.set_cons_succ]
   refine thInsG 5 { dst := some 27, op := Op.load 55 (Operand.tmp 3), type := 55, pos := _, after := _, guard := none } (.agg #[.int .i64 e.t, .int .i64 e.s, .int .i64 e.q, .int .i64 e.d, .int .i64 e.k, .int .i64 e.v, .int .i64 e.g]) ?_
   try simp only [Act.put, List.setIfInBounds_toArray, List.set_cons_zero, List.set_cons_succ]
   refine thInsG 3 { dst := some 25, op := Op.slice 31 (Operand.tmp 23) none (some (Operand.tmp 24)) none, type := 31, pos := _, after := _, guard := none } (.slice av m1 cv) ?_
   try simp only [Act.put, List.setIfInBounds_toArray, List.set_cons_zero, List.set_cons_succ]
   refine wpAnyH_ready (rs := [0, 6]) (by kernel_rfl) (by simp) ?_
   refine AllReadyH.cons (o := { dst := some 22, op := Op.buildSlice 31 0 #[], type := 31, pos := _, after := _, guard := none }) rfl (fun K hK => ?_) (AllReadyH.cons (o := { dst := some 28, op := Op.buildSlice 31 1 #[(0, Operand.tmp 27)], type := 31, pos := _, after := _, guard := none }) rfl (fun K hK => ?_) AllReadyH.nil)
   ·obtain ⟨g1, hg1⟩ : ∃ g, g = w2.heap.size := ⟨_, rfl⟩
    obtain ⟨v1, hv1⟩ : ∃ V, (w2.alloc (.cells #[] 55)).drew = V := ⟨_, rfl⟩
    have HW1 := hidInsG hv1
    have HG1 : Hid (g1 = w2.heap.size) := hg1
    have E_1 : Hid (Bk v1 w.heap.size 55 #[.int .i64 e.t, .int .i64 e.s, .int .i64 e.q, .int .i64 e.d, .int .i64 e.k, .int .i64 e.v, .int .i64 e.g]) := by (rw [← hv1]; exact E_0.out.alloc _)
    have B_1 : Hid (Below w2.heap.size w2 v1) := by (rw [← hv1]; exact B_0.out.alloc B_0.out.size _)
    have R_1 : Hid (v1.ownsRow w2.heap.size 55 7 (.slice (some ⟨g1, 0, none⟩) 0 0) 0 []) := by (rw [← hv1, hg1]; exact owns_mono (row_empty w2) (B_0.out.size))
    have hx1 : w2.heap.size ≤ g1 ∧ g1 ≤ w2.heap.size := by omega
    have hy1 : g1 < v1.heap.size := by (rw [← hv1, hg1]; exact (Bk.new w2 55 #[]).lt)
    clear hv1 hg1
    go_simp
    rw [HW1.out, ← HG1.out]
    refine hK.out _ _ (keepE E_1.out) (fun hHeld => ?_)
    clear hK K
    try simp only [Act.put, List.setIfInBounds_toArray, List.set_cons_zero, List.set_cons_succ]
    refine wpAnyH_ready (rs := [4, 6]) (by kernel_rfl) (by simp) ?_
    refine AllReadyH.cons (o := { dst := some 26, op := Op.call { callee := Callee.builtin Builtin.append, args := #[Operand.tmp 22, Operand.tmp 25], argTypes := #[31, 31] }, type := 31, pos := _, after := _, guard := none }) rfl (fun K hK => ?_) (AllReadyH.cons (o := { dst := some 28, op := Op.buildSlice 31 1 #[(0, Operand.tmp 27)], type := 31, pos := _, after := _, guard := none }) rfl (fun K hK => ?_) AllReadyH.nil)
    ·refine step_append_src (w := v1) rfl (.tmp 22) (.tmp 25) 31 rfl w2.heap.size 55 i0 (.agg #[.int .i64 0, .int .i64 0, .int .i64 0, .int .i64 0, .int .i64 0, .int .i64 0, .int .i64 0]) 7 56 Tryz.underlying31 hi hz0 hz1 hz2 rfl (by decide) (.slice (some ⟨g1, 0, none⟩) 0 0) (0) ([]) rfl R_1.out (.slice av m1 cv) (m1) (cellsL (l.take k)) rfl (HS1.out.below (HB2.out.trans (B_1.out.mono hle2))) (cellsL_one _) (by unfold maxLen; omega) (by omega) B_1.out.size ?_
     intro vn2 v2 hown hgrow hnew
     rw [Nat.zero_add, List.nil_append] at hown
     obtain ⟨aw2, cw2, hvw⟩ := owns_slice hown
     subst hvw
     have hgt := grown_turns hgrow
     have hzz2 : v1.heap.size ≤ v2.heap.size := hgrow.size
     have HRG2 : Hid (∀ b, (.slice (some ⟨g1, 0, none⟩) 0 0 : Value).ownBlock = some b → w2.heap.size ≤ b) := fun b hb => row_ge R_1.out hb
     have E_2 := hidInsG (E_1.out.turns hgt (fun e1 => by have := HRG2.out _ e1; omega))
     have B_2 := hidInsG (B_1.out.grown hgrow B_1.out.size (fun b e1 => HRG2.out b e1))
     have R_2 := hidInsG hown
     clear hown hgrow hnew hgt
     refine hK.out _ _ (keepE E_2.out) (fun hHeld => ?_)
     clear hK K
     try simp only [Act.put, List.setIfInBounds_toArray, List.set_cons_zero, List.set_cons_succ]
     refine wpAnyH_ready (rs := [6]) (by kernel_rfl) (by simp) ?_
     refine AllReadyH.cons (o := { dst := some 28, op := Op.buildSlice 31 1 #[(0, Operand.tmp 27)], type := 31, pos := _, after := _, guard := none }) rfl (fun K hK => ?_) AllReadyH.nil
     ·obtain ⟨g3, hg3⟩ : ∃ g, g = v2.heap.size := ⟨_, rfl⟩
      obtain ⟨v3, hv3⟩ : ∃ V, (v2.alloc (.cells #[.int .i64 e.t, .int .i64 e.s, .int .i64 e.q, .int .i64 e.d, .int .i64 e.k, .int .i64 e.v, .int .i64 e.g] 55)) = V := ⟨_, rfl⟩
      have HW3 := hidInsG hv3
      have HG3 : Hid (g3 = v2.heap.size) := hg3
      have E_3 : Hid (Bk v3 w.heap.size 55 #[.int .i64 e.t, .int .i64 e.s, .int .i64 e.q, .int .i64 e.d, .int .i64 e.k, .int .i64 e.v, .int .i64 e.g]) := by (rw [← hv3]; exact E_2.out.alloc _)
      have B_3 : Hid (Below w2.heap.size w2 v3) := by (rw [← hv3]; exact B_2.out.alloc B_2.out.size _)
      have R_3 : Hid (v3.ownsRow w2.heap.size 55 7 (.slice aw2 m1 cw2) m1 (cellsL (l.take k))) := by (rw [← hv3]; exact R_2.out.alloc _)
      have O_3 : Hid (Bk v3 g3 55 #[.int .i64 e.t, .int .i64 e.s, .int .i64 e.q, .int .i64 e.d, .int .i64 e.k, .int .i64 e.v, .int .i64 e.g]) := by (rw [← hv3, hg3]; exact Bk.new v2 _ _)
      have HNQ3 : Hid (∀ b, (.slice aw2 m1 cw2 : Value).ownBlock = some b → b ≠ g3) := fun b hb e1 => by have := owns_lt R_2.out hb; have := hg3; simp at *; omega
      have hx3 : v2.heap.size ≤ g3 ∧ g3 ≤ v2.heap.size := by omega
      have hy3 : g3 < v3.heap.size := by (rw [← hv3, hg3]; exact (Bk.new v2 55 #[.int .i64 e.t, .int .i64 e.s, .int .i64 e.q, .int .i64 e.d, .int .i64 e.k, .int .i64 e.v, .int .i64 e.g]).lt)
      clear hv3 hg3
      go_simp
      rw [HW3.out, ← HG3.out]
      refine hK.out _ _ (keepE E_3.out) (fun hHeld => ?_)
      clear hK K
      try simp only [Act.put, List.setIfInBounds_toArray, List.set_cons_zero, List.set_cons_succ]
      refine wpAnyH_ready (rs := [7]) (by kernel_rfl) (by simp) ?_
      refine AllReadyH.cons (o := { dst := some 29, op := Op.call { callee := Callee.builtin Builtin.append, args := #[Operand.tmp 26, Operand.tmp 28], argTypes := #[31, 31] }, type := 31, pos := _, after := _, guard := none }) rfl (fun K hK => ?_) AllReadyH.nil
      ·refine step_append_src (w := v3) rfl (.tmp 26) (.tmp 28) 31 rfl w2.heap.size 55 i0 (.agg #[.int .i64 0, .int .i64 0, .int .i64 0, .int .i64 0, .int .i64 0, .int .i64 0, .int .i64 0]) 7 56 Tryz.underlying31 hi hz0 hz1 hz2 rfl (by decide) (.slice aw2 m1 cw2) (m1) ((cellsL (l.take k))) rfl R_3.out (.slice (some ⟨g3, 0, none⟩) 1 1) (1) e.cs rfl O_3.out.one (Ev.cs_one e) (by unfold maxLen; omega) (by omega) B_3.out.size ?_
       intro vn4 v4 hown hgrow hnew
       obtain ⟨aw4, cw4, hvw⟩ := owns_slice hown
       subst hvw
       have hgt := grown_turns hgrow
       have hzz4 : v3.heap.size ≤ v4.heap.size := hgrow.size
       have HRG4 : Hid (∀ b, (.slice aw2 m1 cw2 : Value).ownBlock = some b → w2.heap.size ≤ b) := fun b hb => row_ge R_3.out hb
       have HNE4 : Hid (∀ b, (.slice aw2 m1 cw2 : Value).ownBlock = some b → b ≠ g3) := fun b hb e1 => HNQ3.out b hb e1
       have E_4 := hidInsG (E_3.out.turns hgt (fun e1 => by have := HRG4.out _ e1; omega))
       have B_4 := hidInsG (B_3.out.grown hgrow B_3.out.size (fun b e1 => HRG4.out b e1))
       have O_4 := hidInsG (O_3.out.turns hgt (fun e1 => HNE4.out _ e1 rfl))
       have R_4 := hidInsG hown
       clear hown hgrow hnew hgt
       refine hK.out _ _ (keepE E_4.out) (fun hHeld => ?_)
       clear hK K
       try simp only [Act.put, List.setIfInBounds_toArray, List.set_cons_zero, List.set_cons_succ]
       refine thInsG 8 { dst := some 6, op := Op.assign (Operand.tmp 29), type := 31, pos := _, after := _, guard := none } (.slice aw4 (m1 + 1) cw4) ?_
       try simp only [Act.put, List.setIfInBounds_toArray, List.set_cons_zero, List.set_cons_succ]
       refine wpAnyH_done (by kernel_rfl) ?_ _
       clear hHeld
       go_wp2_with (at_builtin; refine wpList_append_src _ rfl _ _ 31 rfl w2.heap.size 55 i0 (.agg #[.int .i64 0, .int .i64 0, .int .i64 0, .int .i64 0, .int .i64 0, .int .i64 0, .int .i64 0]) 7 56 Tryz.underlying31 hi hz0 hz1 hz2 rfl (by decide) (.slice aw4 (m1 + 1) cw4) ((m1 + 1)) (((cellsL (l.take k)) ++ e.cs)) rfl R_4.out (.slice au m2 cu) m2 (cellsL (l.drop k)) rfl (HS2.out.below (HB2.out.trans (B_4.out.mono hle2))) (cellsL_one _) (by unfold maxLen; omega) (by omega) B_4.out.size ?_; intro vn wn hown hgrow hnew)
       go_ret
       refine ⟨k, vn, rfl, HINS.out, OwnR.mono (show OwnR w2.heap.size _ _ _ from ?_) hle2, HB2.out.trans ((B_4.out.grown hgrow B_4.out.size (fun b e1 => row_ge R_4.out e1)).mono hle2)⟩
       have hlen : (l.take k ++ e :: l.drop k).length = (m1 + 1) + m2 := by rw [← HM.out.1, ← HM.out.2]; simp; omega
       unfold OwnR
       rw [hlen, cellsL_append]
       show World.ownsRow _ _ _ _ _ _ (cellsL (l.take k) ++ (e.cs ++ cellsL (l.drop k)))
       rw [← List.append_assoc]
       simpa using hown
    ·obtain ⟨g5, hg5⟩ : ∃ g, g = v1.heap.size := ⟨_, rfl⟩
     obtain ⟨v5, hv5⟩ : ∃ V, (v1.alloc (.cells #[.int .i64 e.t, .int .i64 e.s, .int .i64 e.q, .int .i64 e.d, .int .i64 e.k, .int .i64 e.v, .int .i64 e.g] 55)) = V := ⟨_, rfl⟩
     have HW5 := hidInsG hv5
     have HG5 : Hid (g5 = v1.heap.size) := hg5
     have E_5 : Hid (Bk v5 w.heap.size 55 #[.int .i64 e.t, .int .i64 e.s, .int .i64 e.q, .int .i64 e.d, .int .i64 e.k, .int .i64 e.v, .int .i64 e.g]) := by (rw [← hv5]; exact E_1.out.alloc _)
     have B_5 : Hid (Below w2.heap.size w2 v5) := by (rw [← hv5]; exact B_1.out.alloc B_1.out.size _)
     have R_5 : Hid (v5.ownsRow w2.heap.size 55 7 (.slice (some ⟨g1, 0, none⟩) 0 0) 0 []) := by (rw [← hv5]; exact R_1.out.alloc _)
     have O_5 : Hid (Bk v5 g5 55 #[.int .i64 e.t, .int .i64 e.s, .int .i64 e.q, .int .i64 e.d, .int .i64 e.k, .int .i64 e.v, .int .i64 e.g]) := by (rw [← hv5, hg5]; exact Bk.new v1 _ _)
     have HNQ5 : Hid (∀ b, (.slice (some ⟨g1, 0, none⟩) 0 0 : Value).ownBlock = some b → b ≠ g5) := fun b hb e1 => by have := owns_lt R_1.out hb; have := hg5; simp at *; omega
     have hx5 : v1.heap.size ≤ g5 ∧ g5 ≤ v1.heap.size := by omega
     have hy5 : g5 < v5.heap.size := by (rw [← hv5, hg5]; exact (Bk.new v1 55 #[.int .i64 e.t, .int .i64 e.s, .int .i64 e.q, .int .i64 e.d, .int .i64 e.k, .int .i64 e.v, .int .i64 e.g]).lt)
     clear hv5 hg5
     go_simp
     rw [HW5.out, ← HG5.out]
     refine hK.out _ _ (keepE E_5.out) (fun hHeld => ?_)
     clear hK K
     try simp only [Act.put, List.setIfInBounds_toArray, List.set_cons_zero, List.set_cons_succ]
     refine wpAnyH_ready (rs := [4]) (by kernel_rfl) (by simp) ?_
     refine AllReadyH.cons (o := { dst := some 26, op := Op.call { callee := Callee.builtin Builtin.append, args := #[Operand.tmp 22, Operand.tmp 25], argTypes := #[31, 31] }, type := 31, pos := _, after := _, guard := none }) rfl (fun K hK => ?_) AllReadyH.nil
     ·refine step_append_src (w := v5) rfl (.tmp 22) (.tmp 25) 31 rfl w2.heap.size 55 i0 (.agg #[.int .i64 0, .int .i64 0, .int .i64 0, .int .i64 0, .int .i64 0, .int .i64 0, .int .i64 0]) 7 56 Tryz.underlying31 hi hz0 hz1 hz2 rfl (by decide) (.slice (some ⟨g1, 0, none⟩) 0 0) (0) ([]) rfl R_5.out (.slice av m1 cv) (m1) (cellsL (l.take k)) rfl (HS1.out.below (HB2.out.trans (B_5.out.mono hle2))) (cellsL_one _) (by unfold maxLen; omega) (by omega) B_5.out.size ?_
      intro vn6 v6 hown hgrow hnew
      rw [Nat.zero_add, List.nil_append] at hown
      obtain ⟨aw6, cw6, hvw⟩ := owns_slice hown
      subst hvw
      have hgt := grown_turns hgrow
      have hzz6 : v5.heap.size ≤ v6.heap.size := hgrow.size
      have HRG6 : Hid (∀ b, (.slice (some ⟨g1, 0, none⟩) 0 0 : Value).ownBlock = some b → w2.heap.size ≤ b) := fun b hb => row_ge R_5.out hb
      have HNE6 : Hid (∀ b, (.slice (some ⟨g1, 0, none⟩) 0 0 : Value).ownBlock = some b → b ≠ g5) := fun b hb e1 => HNQ5.out b hb e1
      have E_6 := hidInsG (E_5.out.turns hgt (fun e1 => by have := HRG6.out _ e1; omega))
      have B_6 := hidInsG (B_5.out.grown hgrow B_5.out.size (fun b e1 => HRG6.out b e1))
      have O_6 := hidInsG (O_5.out.turns hgt (fun e1 => HNE6.out _ e1 rfl))
      have R_6 := hidInsG hown
      have HNQ6 : Hid (∀ b, (Value.slice aw6 m1 cw6).ownBlock = some b → b ≠ g5) := fun b hb e1 => by rcases hnew with h9 | h9; exact HNE6.out b (h9 ▸ hb) e1; have := h9 b hb; have := O_6.out.lt; omega
      clear hown hgrow hnew hgt
      refine hK.out _ _ (keepE E_6.out) (fun hHeld => ?_)
      clear hK K
      try simp only [Act.put, List.setIfInBounds_toArray, List.set_cons_zero, List.set_cons_succ]
      refine wpAnyH_ready (rs := [7]) (by kernel_rfl) (by simp) ?_
      refine AllReadyH.cons (o := { dst := some 29, op := Op.call { callee := Callee.builtin Builtin.append, args := #[Operand.tmp 26, Operand.tmp 28], argTypes := #[31, 31] }, type := 31, pos := _, after := _, guard := none }) rfl (fun K hK => ?_) AllReadyH.nil
      ·refine step_append_src (w := v6) rfl (.tmp 26) (.tmp 28) 31 rfl w2.heap.size 55 i0 (.agg #[.int .i64 0, .int .i64 0, .int .i64 0, .int .i64 0, .int .i64 0, .int .i64 0, .int .i64 0]) 7 56 Tryz.underlying31 hi hz0 hz1 hz2 rfl (by decide) (.slice aw6 m1 cw6) (m1) ((cellsL (l.take k))) rfl R_6.out (.slice (some ⟨g5, 0, none⟩) 1 1) (1) e.cs rfl O_6.out.one (Ev.cs_one e) (by unfold maxLen; omega) (by omega) B_6.out.size ?_
       intro vn7 v7 hown hgrow hnew
       obtain ⟨aw7, cw7, hvw⟩ := owns_slice hown
       subst hvw
       have hgt := grown_turns hgrow
       have hzz7 : v6.heap.size ≤ v7.heap.size := hgrow.size
       have HRG7 : Hid (∀ b, (.slice aw6 m1 cw6 : Value).ownBlock = some b → w2.heap.size ≤ b) := fun b hb => row_ge R_6.out hb
       have HNE7 : Hid (∀ b, (.slice aw6 m1 cw6 : Value).ownBlock = some b → b ≠ g5) := fun b hb e1 => HNQ6.out b hb e1
       have E_7 := hidInsG (E_6.out.turns hgt (fun e1 => by have := HRG7.out _ e1; omega))
       have B_7 := hidInsG (B_6.out.grown hgrow B_6.out.size (fun b e1 => HRG7.out b e1))
       have O_7 := hidInsG (O_6.out.turns hgt (fun e1 => HNE7.out _ e1 rfl))
       have R_7 := hidInsG hown
       clear hown hgrow hnew hgt
       refine hK.out _ _ (keepE E_7.out) (fun hHeld => ?_)
       clear hK K
       try simp only [Act.put, List.setIfInBounds_toArray, List.set_cons_zero, List.set_cons_succ]
       refine thInsG 8 { dst := some 6, op := Op.assign (Operand.tmp 29), type := 31, pos := _, after := _, guard := none } (.slice aw7 (m1 + 1) cw7) ?_
       try simp only [Act.put, List.setIfInBounds_toArray, List.set_cons_zero, List.set_cons_succ]
       refine wpAnyH_done (by kernel_rfl) ?_ _
       clear hHeld
       go_wp2_with (at_builtin; refine wpList_append_src _ rfl _ _ 31 rfl w2.heap.size 55 i0 (.agg #[.int .i64 0, .int .i64 0, .int .i64 0, .int .i64 0, .int .i64 0, .int .i64 0, .int .i64 0]) 7 56 Tryz.underlying31 hi hz0 hz1 hz2 rfl (by decide) (.slice aw7 (m1 + 1) cw7) ((m1 + 1)) (((cellsL (l.take k)) ++ e.cs)) rfl R_7.out (.slice au m2 cu) m2 (cellsL (l.drop k)) rfl (HS2.out.below (HB2.out.trans (B_7.out.mono hle2))) (cellsL_one _) (by unfold maxLen; omega) (by omega) B_7.out.size ?_; intro vn wn hown hgrow hnew)
       go_ret
       refine ⟨k, vn, rfl, HINS.out, OwnR.mono (show OwnR w2.heap.size _ _ _ from ?_) hle2, HB2.out.trans ((B_7.out.grown hgrow B_7.out.size (fun b e1 => row_ge R_7.out e1)).mono hle2)⟩
       have hlen : (l.take k ++ e :: l.drop k).length = (m1 + 1) + m2 := by rw [← HM.out.1, ← HM.out.2]; simp; omega
       unfold OwnR
       rw [hlen, cellsL_append]
       show World.ownsRow _ _ _ _ _ _ (cellsL (l.take k) ++ (e.cs ++ cellsL (l.drop k)))
       rw [← List.append_assoc]
       simpa using hown
   ·obtain ⟨g8, hg8⟩ : ∃ g, g = w2.heap.size := ⟨_, rfl⟩
    obtain ⟨v8, hv8⟩ : ∃ V, (w2.alloc (.cells #[.int .i64 e.t, .int .i64 e.s, .int .i64 e.q, .int .i64 e.d, .int .i64 e.k, .int .i64 e.v, .int .i64 e.g] 55)).drew = V := ⟨_, rfl⟩
    have HW8 := hidInsG hv8
    have HG8 : Hid (g8 = w2.heap.size) := hg8
    have E_8 : Hid (Bk v8 w.heap.size 55 #[.int .i64 e.t, .int .i64 e.s, .int .i64 e.q, .int .i64 e.d, .int .i64 e.k, .int .i64 e.v, .int .i64 e.g]) := by (rw [← hv8]; exact E_0.out.alloc _)
    have B_8 : Hid (Below w2.heap.size w2 v8) := by (rw [← hv8]; exact B_0.out.alloc B_0.out.size _)
    have O_8 : Hid (Bk v8 g8 55 #[.int .i64 e.t, .int .i64 e.s, .int .i64 e.q, .int .i64 e.d, .int .i64 e.k, .int .i64 e.v, .int .i64 e.g]) := by (rw [← hv8, hg8]; exact Bk.new w2 _ _)
    have hx8 : w2.heap.size ≤ g8 ∧ g8 ≤ w2.heap.size := by omega
    have hy8 : g8 < v8.heap.size := by (rw [← hv8, hg8]; exact (Bk.new w2 55 #[.int .i64 e.t, .int .i64 e.s, .int .i64 e.q, .int .i64 e.d, .int .i64 e.k, .int .i64 e.v, .int .i64 e.g]).lt)
    clear hv8 hg8
    go_simp
    rw [HW8.out, ← HG8.out]
    refine hK.out _ _ (keepE E_8.out) (fun hHeld => ?_)
    clear hK K
    try simp only [Act.put, List.setIfInBounds_toArray, List.set_cons_zero, List.set_cons_succ]
    refine wpAnyH_ready (rs := [0]) (by kernel_rfl) (by simp) ?_
    refine AllReadyH.cons (o := { dst := some 22, op := Op.buildSlice 31 0 #[], type := 31, pos := _, after := _, guard := none }) rfl (fun K hK => ?_) AllReadyH.nil
    ·obtain ⟨g9, hg9⟩ : ∃ g, g = v8.heap.size := ⟨_, rfl⟩
     obtain ⟨v9, hv9⟩ : ∃ V, (v8.alloc (.cells #[] 55)) = V := ⟨_, rfl⟩
     have HW9 := hidInsG hv9
     have HG9 : Hid (g9 = v8.heap.size) := hg9
     have E_9 : Hid (Bk v9 w.heap.size 55 #[.int .i64 e.t, .int .i64 e.s, .int .i64 e.q, .int .i64 e.d, .int .i64 e.k, .int .i64 e.v, .int .i64 e.g]) := by (rw [← hv9]; exact E_8.out.alloc _)
     have B_9 : Hid (Below w2.heap.size w2 v9) := by (rw [← hv9]; exact B_8.out.alloc B_8.out.size _)
     have O_9 : Hid (Bk v9 g8 55 #[.int .i64 e.t, .int .i64 e.s, .int .i64 e.q, .int .i64 e.d, .int .i64 e.k, .int .i64 e.v, .int .i64 e.g]) := by (rw [← hv9]; exact O_8.out.alloc _)
     have R_9 : Hid (v9.ownsRow w2.heap.size 55 7 (.slice (some ⟨g9, 0, none⟩) 0 0) 0 []) := by (rw [← hv9, hg9]; exact owns_mono (row_empty v8) (B_8.out.size))
     have hx9 : v8.heap.size ≤ g9 ∧ g9 ≤ v8.heap.size := by omega
     have hy9 : g9 < v9.heap.size := by (rw [← hv9, hg9]; exact (Bk.new v8 55 #[]).lt)
     clear hv9 hg9
     go_simp
     rw [HW9.out, ← HG9.out]
     refine hK.out _ _ (keepE E_9.out) (fun hHeld => ?_)
     clear hK K
     try simp only [Act.put, List.setIfInBounds_toArray, List.set_cons_zero, List.set_cons_succ]
     refine wpAnyH_ready (rs := [4]) (by kernel_rfl) (by simp) ?_
     refine AllReadyH.cons (o := { dst := some 26, op := Op.call { callee := Callee.builtin Builtin.append, args := #[Operand.tmp 22, Operand.tmp 25], argTypes := #[31, 31] }, type := 31, pos := _, after := _, guard := none }) rfl (fun K hK => ?_) AllReadyH.nil
     ·refine step_append_src (w := v9) rfl (.tmp 22) (.tmp 25) 31 rfl w2.heap.size 55 i0 (.agg #[.int .i64 0, .int .i64 0, .int .i64 0, .int .i64 0, .int .i64 0, .int .i64 0, .int .i64 0]) 7 56 Tryz.underlying31 hi hz0 hz1 hz2 rfl (by decide) (.slice (some ⟨g9, 0, none⟩) 0 0) (0) ([]) rfl R_9.out (.slice av m1 cv) (m1) (cellsL (l.take k)) rfl (HS1.out.below (HB2.out.trans (B_9.out.mono hle2))) (cellsL_one _) (by unfold maxLen; omega) (by omega) B_9.out.size ?_
      intro vn10 v10 hown hgrow hnew
      rw [Nat.zero_add, List.nil_append] at hown
      obtain ⟨aw10, cw10, hvw⟩ := owns_slice hown
      subst hvw
      have hgt := grown_turns hgrow
      have hzz10 : v9.heap.size ≤ v10.heap.size := hgrow.size
      have HRG10 : Hid (∀ b, (.slice (some ⟨g9, 0, none⟩) 0 0 : Value).ownBlock = some b → w2.heap.size ≤ b) := fun b hb => row_ge R_9.out hb
      have HNE10 : Hid (∀ b, (.slice (some ⟨g9, 0, none⟩) 0 0 : Value).ownBlock = some b → b ≠ g8) := fun b hb e1 => by simp [Value.ownBlock] at hb; omega
      have E_10 := hidInsG (E_9.out.turns hgt (fun e1 => by have := HRG10.out _ e1; omega))
      have B_10 := hidInsG (B_9.out.grown hgrow B_9.out.size (fun b e1 => HRG10.out b e1))
      have O_10 := hidInsG (O_9.out.turns hgt (fun e1 => HNE10.out _ e1 rfl))
      have R_10 := hidInsG hown
      have HNQ10 : Hid (∀ b, (Value.slice aw10 m1 cw10).ownBlock = some b → b ≠ g8) := fun b hb e1 => by rcases hnew with h9 | h9; exact HNE10.out b (h9 ▸ hb) e1; have := h9 b hb; have := O_10.out.lt; omega
      clear hown hgrow hnew hgt
      refine hK.out _ _ (keepE E_10.out) (fun hHeld => ?_)
      clear hK K
      try simp only [Act.put, List.setIfInBounds_toArray, List.set_cons_zero, List.set_cons_succ]
      refine wpAnyH_ready (rs := [7]) (by kernel_rfl) (by simp) ?_
      refine AllReadyH.cons (o := { dst := some 29, op := Op.call { callee := Callee.builtin Builtin.append, args := #[Operand.tmp 26, Operand.tmp 28], argTypes := #[31, 31] }, type := 31, pos := _, after := _, guard := none }) rfl (fun K hK => ?_) AllReadyH.nil
      ·refine step_append_src (w := v10) rfl (.tmp 26) (.tmp 28) 31 rfl w2.heap.size 55 i0 (.agg #[.int .i64 0, .int .i64 0, .int .i64 0, .int .i64 0, .int .i64 0, .int .i64 0, .int .i64 0]) 7 56 Tryz.underlying31 hi hz0 hz1 hz2 rfl (by decide) (.slice aw10 m1 cw10) (m1) ((cellsL (l.take k))) rfl R_10.out (.slice (some ⟨g8, 0, none⟩) 1 1) (1) e.cs rfl O_10.out.one (Ev.cs_one e) (by unfold maxLen; omega) (by omega) B_10.out.size ?_
       intro vn11 v11 hown hgrow hnew
       obtain ⟨aw11, cw11, hvw⟩ := owns_slice hown
       subst hvw
       have hgt := grown_turns hgrow
       have hzz11 : v10.heap.size ≤ v11.heap.size := hgrow.size
       have HRG11 : Hid (∀ b, (.slice aw10 m1 cw10 : Value).ownBlock = some b → w2.heap.size ≤ b) := fun b hb => row_ge R_10.out hb
       have HNE11 : Hid (∀ b, (.slice aw10 m1 cw10 : Value).ownBlock = some b → b ≠ g8) := fun b hb e1 => HNQ10.out b hb e1
       have E_11 := hidInsG (E_10.out.turns hgt (fun e1 => by have := HRG11.out _ e1; omega))
       have B_11 := hidInsG (B_10.out.grown hgrow B_10.out.size (fun b e1 => HRG11.out b e1))
       have O_11 := hidInsG (O_10.out.turns hgt (fun e1 => HNE11.out _ e1 rfl))
       have R_11 := hidInsG hown
       clear hown hgrow hnew hgt
       refine hK.out _ _ (keepE E_11.out) (fun hHeld => ?_)
       clear hK K
       try simp only [Act.put, List.setIfInBounds_toArray, List.set_cons_zero, List.set_cons_succ]
       refine thInsG 8 { dst := some 6, op := Op.assign (Operand.tmp 29), type := 31, pos := _, after := _, guard := none } (.slice aw11 (m1 + 1) cw11) ?_
       try simp only [Act.put, List.setIfInBounds_toArray, List.set_cons_zero, List.set_cons_succ]
       refine wpAnyH_done (by kernel_rfl) ?_ _
       clear hHeld
       go_wp2_with (at_builtin; refine wpList_append_src _ rfl _ _ 31 rfl w2.heap.size 55 i0 (.agg #[.int .i64 0, .int .i64 0, .int .i64 0, .int .i64 0, .int .i64 0, .int .i64 0, .int .i64 0]) 7 56 Tryz.underlying31 hi hz0 hz1 hz2 rfl (by decide) (.slice aw11 (m1 + 1) cw11) ((m1 + 1)) (((cellsL (l.take k)) ++ e.cs)) rfl R_11.out (.slice au m2 cu) m2 (cellsL (l.drop k)) rfl (HS2.out.below (HB2.out.trans (B_11.out.mono hle2))) (cellsL_one _) (by unfold maxLen; omega) (by omega) B_11.out.size ?_; intro vn wn hown hgrow hnew)
       go_ret
       refine ⟨k, vn, rfl, HINS.out, OwnR.mono (show OwnR w2.heap.size _ _ _ from ?_) hle2, HB2.out.trans ((B_11.out.grown hgrow B_11.out.size (fun b e1 => row_ge R_11.out e1)).mono hle2)⟩
       have hlen : (l.take k ++ e :: l.drop k).length = (m1 + 1) + m2 := by rw [← HM.out.1, ← HM.out.2]; simp; omega
       unfold OwnR
       rw [hlen, cellsL_append]
       show World.ownsRow _ _ _ _ _ _ (cellsL (l.take k) ++ (e.cs ++ cellsL (l.drop k)))
       rw [← List.append_assoc]
       simpa using hown
end Go.Proofs.YtnccenbkpocjgaaGreat

/- Rows that are either as they came in or one's own, apart from one that grows. -/
namespace Go.Proofs.YtnccenbkpocjgaaGreat
open Go.RowKit
def RowO (w wr : World) (B : Nat) (T : TypeId) (c : Nat) (u v : Value) (n : Nat) (cs : List Value) : Prop :=
 (SrcC w v c n cs ∧ ∃ a cap, v = .slice a n cap ∧ n ≤ cap ∧ cap ≤ maxLen) ∨ (wr.ownsRow B T c v n cs ∧ ∀ b, v.ownBlock = some b → u.ownBlock ≠ some b)
theorem owns_src {w : World} {B : Nat} {T : TypeId} {c n : Nat} {v : Value} {cs : List Value} (h : w.ownsRow B T c v n cs) : SrcC w v c n cs ∧ ∃ a cap, v = .slice a n cap ∧ n ≤ cap ∧ cap ≤ maxLen := by
 obtain ⟨hl, ⟨rfl, rfl⟩ | ⟨g, cap, cur, rfl, hg, hc, h1, h2, h3, h4⟩⟩ := h
 ·exact ⟨⟨hl, none, 0, rfl, .inl rfl⟩, none, 0, rfl, Nat.le_refl _, Nat.zero_le _⟩
 ·refine ⟨⟨hl, _, _, rfl, .inr ⟨g, 0, rfl, (Array.getElem?_eq_some_iff.1 hc).1, fun j hj => ?_⟩⟩, _, _, rfl, h1, h2⟩
  rw [Nat.zero_add, ← h4, List.getElem?_take_of_lt hj]
  simp [World.cell?, hc]
theorem RowO.read {w wr : World} {B : Nat} {T : TypeId} {c n : Nat} {u v : Value} {cs : List Value} (h : RowO w wr B T c u v n cs) (hb : Below w.heap.size w wr) : SrcC wr v c n cs ∧ ∃ a cap, v = .slice a n cap ∧ n ≤ cap ∧ cap ≤ maxLen := by
 rcases h with ⟨h1, h2⟩ | ⟨h1, _⟩
 ·exact ⟨h1.below hb, h2⟩
 ·exact owns_src h1
theorem RowO.grow {w wr w' : World} {B : Nat} {T : TypeId} {c n : Nat} {u u' v : Value} {cs : List Value} (h : RowO w wr B T c u v n cs) (hg : wr.grownBy w' u.ownBlock) (hn : NewRow wr u u') : RowO w w' B T c u' v n cs := by
 rcases h with h | ⟨h1, h2⟩
 ·exact .inl h
 ·refine .inr ⟨owns_turns h1 (grown_turns hg) (fun k hk => h2 k hk), fun b hb e => ?_⟩
  rcases hn with e1 | e1
  ·exact h2 b hb (e1 ▸ e)
  ·have := e1 b e
   have := owns_lt h1 hb
   omega
theorem RowO.turns {S : Nat → Prop} {w wr w' : World} {B : Nat} {T : TypeId} {c n : Nat} {u v : Value} {cs : List Value} (h : RowO w wr B T c u v n cs) (ht : Turns S wr w') (hS : ∀ k, S k → k < B) : RowO w w' B T c u v n cs := by
 rcases h with h | ⟨h1, h2⟩
 ·exact .inl h
 ·exact .inr ⟨owns_turns h1 ht (fun k hk hs => by have := hS k hs; have := row_ge h1 hk; omega), h2⟩
theorem RowO.keep {w wr w' : World} {B : Nat} {T : TypeId} {c n : Nat} {u v : Value} {cs : List Value} (h : RowO w wr B T c u v n cs) (hb : Below wr.heap.size wr w') : RowO w w' B T c u v n cs :=
 h.turns (S := fun _ => False) (Turns.of_below hb) (fun _ => False.elim)
theorem SrcC.isD {w w0 : World} {v : Value} {c n : Nat} {cs : List Value} {f : Nat → Dat} (h : SrcC w v c n cs) (hv : ∃ a cap, v = .slice a n cap ∧ n ≤ cap ∧ cap ≤ maxLen) (hb : Below w0.heap.size w0 w) (hd : ∀ j, j < n * c → IsD w0 (nthV cs j) (f j)) : IsD w v (.row c n f) := by
 obtain ⟨a, cap, rfl, h1, h2⟩ := hv
 obtain ⟨hl, a', cap', he, h⟩ := h
 obtain ⟨rfl, rfl⟩ : a = a' ∧ cap = cap' := by simpa using he
 refine IsD.of_parts h1 h2 (h.imp id ?_)
 rintro ⟨b, off, rfl, hlt, hc⟩
 refine ⟨b, off, rfl, hlt, fun j hj => ⟨nthV cs j, ?_, (hd j hj).under hb⟩⟩
 rw [hc j hj, List.getElem?_eq_getElem (by omega)]
 simp [nthV, show j < cs.length by omega]
theorem SrcC.cut {w : World} {a : Option Addr} {n cap c k : Nat} {cs : List Value} (h : SrcC w (.slice a n cap) c n cs) (hk : k ≤ n) (hcap : n ≤ cap) : SrcC w (sliced a 0 k cap c) c k (cs.take (k * c)) := by
 obtain ⟨hl, a', cap', he, h⟩ := h
 obtain ⟨rfl, rfl⟩ : a = a' ∧ cap = cap' := by simpa using he
 have hkn : k * c ≤ n * c := Nat.mul_le_mul_right c hk
 unfold sliced
 refine ⟨by rw [List.length_take]; omega, _, _, rfl, ?_⟩
 by_cases h0 : k = 0
 ·exact .inl h0
 ·obtain ⟨b, off, rfl, hlt, hc⟩ := h.resolve_left (by omega)
  rw [if_neg (by omega)]
  refine .inr ⟨b, off, by simp [Addr.add_lit], hlt, fun j hj => ?_⟩
  rw [hc j (by omega), List.getElem?_take_of_lt hj]
theorem ps_cells {w : World} {l : List Ps} {cs : List Value} {n : Nat} (hn : n ≤ l.length) (hl : cs.length = l.length * 12) (hd : ∀ j, j < l.length * 12 → IsD w (nthV cs j) (pastsD_f l j)) {k : Nat} (hk : k < n) {wr : World} {b off : Nat}
  (hc : ∀ j, j < n * 12 → wr.cell? ⟨b, off + j, none⟩ = (cs.take (n * 12))[j]?) :
  ∃ u7 u10 u11, wr.cell? ⟨b, off + k * 12, none⟩ = some (.int .i64 (psAt l k).e.t) ∧ wr.cell? ⟨b, off + k * 12 + 1, none⟩ = some (.int .i64 (psAt l k).e.s) ∧ wr.cell? ⟨b, off + k * 12 + 2, none⟩ = some (.int .i64 (psAt l k).e.q) ∧ wr.cell? ⟨b, off + k * 12 + 3, none⟩ = some (.int .i64 (psAt l k).e.d) ∧ wr.cell? ⟨b, off + k * 12 + 4, none⟩ = some (.int .i64 (psAt l k).e.k) ∧ wr.cell? ⟨b, off + k * 12 + 5, none⟩ = some (.int .i64 (psAt l k).e.v) ∧ wr.cell? ⟨b, off + k * 12 + 6, none⟩ = some (.int .i64 (psAt l k).e.g) ∧ wr.cell? ⟨b, off + k * 12 + 7, none⟩ = some u7 ∧ wr.cell? ⟨b, off + k * 12 + 8, none⟩ = some (.int .i64 (psAt l k).b.q) ∧ wr.cell? ⟨b, off + k * 12 + 9, none⟩ = some (.int .i64 (psAt l k).b.d) ∧ wr.cell? ⟨b, off + k * 12 + 10, none⟩ = some u10 ∧ wr.cell? ⟨b, off + k * 12 + 11, none⟩ = some u11 ∧
   IsD w u7 (intsD (psAt l k).b.r) ∧ IsD w u10 (evsD (psAt l k).s) ∧ IsD w u11 (emsD (psAt l k).x) := by
 have hh : ∀ r, r < 12 → wr.cell? ⟨b, off + k * 12 + r, none⟩ = some (nthV cs (k * 12 + r)) ∧ IsD w (nthV cs (k * 12 + r)) ((psAt l k).cell r) := fun r hr => by
  have h1 := hc (k * 12 + r) (by omega)
  rw [List.getElem?_take_of_lt (by omega), List.getElem?_eq_getElem (by omega), ← Nat.add_assoc] at h1
  have h2 := hd (k * 12 + r) (by omega)
  rw [pastsD_at l k hr] at h2
  refine ⟨?_, h2⟩
  rw [h1]
  simp [nthV, show k * 12 + r < cs.length by omega]
 have v0 := (hh 0 (by omega)).2.val_eq
 have v1 := (hh 1 (by omega)).2.val_eq
 have v2 := (hh 2 (by omega)).2.val_eq
 have v3 := (hh 3 (by omega)).2.val_eq
 have v4 := (hh 4 (by omega)).2.val_eq
 have v5 := (hh 5 (by omega)).2.val_eq
 have v6 := (hh 6 (by omega)).2.val_eq
 have v8 := (hh 8 (by omega)).2.val_eq
 have v9 := (hh 9 (by omega)).2.val_eq
 exact ⟨_, _, _, v0 ▸ (hh 0 (by omega)).1, v1 ▸ (hh 1 (by omega)).1, v2 ▸ (hh 2 (by omega)).1, v3 ▸ (hh 3 (by omega)).1, v4 ▸ (hh 4 (by omega)).1, v5 ▸ (hh 5 (by omega)).1, v6 ▸ (hh 6 (by omega)).1, (hh 7 (by omega)).1, v8 ▸ (hh 8 (by omega)).1, v9 ▸ (hh 9 (by omega)).1, (hh 10 (by omega)).1, (hh 11 (by omega)).1, (hh 7 (by omega)).2, (hh 10 (by omega)).2, (hh 11 (by omega)).2⟩
end Go.Proofs.YtnccenbkpocjgaaGreat

