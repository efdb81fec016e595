/- HHe, HHp, HTt, HIh -/
import Derived.Test.YtnccenbkpocjgaaGreatExactHearG36
import Derived.Test.YtnccenbkpocjgaaGreatExactHearLPGf
import Derived.Test.YtnccenbkpocjgaaGreatExactHearG37
import Derived.Test.YtnccenbkpocjgaaGreatExactHearG22
import Derived.Test.YtnccenbkpocjgaaGreatExactHearG03
import Derived.Test.YtnccenbkpocjgaaGreatExactHearG24
import Derived.Test.YtnccenbkpocjgaaGreatExactHearG34
import Derived.Test.YtnccenbkpocjgaaGreatExactHearG26
import Derived.Test.YtnccenbkpocjgaaGreatExactHearG04
import Derived.Deep.RegionHeld3
import Derived.Sort.BigQuietIn
/- A doer hears of an event. -/
namespace Go.Proofs.YtnccenbkpocjgaaGreat
open Go.RowKit
theorem cellsL_cut : ∀ (l : List Ev) (i : Nat), (cellsL l).take (i * 7) = cellsL (l.take i) ∧ (cellsL l).drop (i * 7) = cellsL (l.drop i)
 | [], i => by simp [cellsL]
 | a :: l, 0 => by simp [cellsL]
 | a :: l, i + 1 => by
  obtain ⟨h1, h2⟩ := cellsL_cut l i
  have e : cellsL (a :: l) = a.cs ++ cellsL l := rfl
  have hl : a.cs.length = 7 := rfl
  rw [e, show (i + 1) * 7 = a.cs.length + i * 7 by rw [hl]; omega, List.take_length_add_append, List.drop_length_add_append, h1, h2]
  exact ⟨rfl, rfl⟩
theorem cellsL_put (l : List Ev) (e : Ev) (i : Nat) : (cellsL l).take (i * 7) ++ e.cs ++ (cellsL l).drop (i * 7) = cellsL (l.take i ++ e :: l.drop i) := by
 rw [(cellsL_cut l i).1, (cellsL_cut l i).2, cellsL_append, List.append_assoc]
 rfl
theorem DoR.setT {B D : Nat} {w X : World} {vr vp vt vt' va vu : Value} {A1 A4 : Nat → Prop} {p : Pa} {u l : List Ev} (h : DoR B D w vr vp vt va vu A1 A4 p u) (hb3 : Bk X D 157 #[vr, .int .i64 p.st.q, .int .i64 p.st.d, .int .i64 p.n, vp, vt', va, vu]) (ho : X.ownsRow B 55 7 vt' l.length (cellsL l)) (hn : NewRow w vt vt') (tt : Turns (fun k => k = D ∨ vt.ownBlock = some k) w X) :
  DoR B D X vr vp vt' va vu A1 A4 ⟨p.n, p.st, p.p, l, p.a⟩ u := by
 have fresh : ∀ k, k < w.heap.size → vt.ownBlock ≠ some k → vt'.ownBlock ≠ some k := fun k hk hne e => by
  rcases hn with h1 | h1
  ·exact hne (h1 ▸ e)
  ·have := h1 k e; omega
 have hua : ∀ k, va.ownBlock = some k → k < w.heap.size := fun k hk => owns_lt h.cp.antis hk
 have huu : ∀ k, vu.ownBlock = some k → k < w.heap.size := fun k hk => owns_lt h.und hk
 have nat : ∀ k, va.ownBlock = some k → vt.ownBlock ≠ some k := fun k hk e => h.cp.d5 k e hk
 refine ⟨⟨?_, ?_, ho, ?_, ?_, ?_, ?_⟩, ?_, hb3, ?_, h.dD, h.lo⟩
 ·exact h.cp.regs.turns tt (fun k hk hs => hs.elim (fun e => h.dD.1 (e ▸ hk)) (h.cp.d1 k hk).2.2.1)
 ·exact h.cp.past.turns tt (fun k hk hs => hs.elim (fun e => h.dD.2 (e ▸ hk)) (h.cp.d4 k hk).2.1)
 ·exact owns_turns h.cp.antis tt (fun k hk hs => hs.elim (fun e => h.neT.2.1 (e ▸ hk)) (nat k hk))
 ·exact fun k hk => ⟨⟨(h.cp.d1 k hk).1.1, Nat.lt_of_lt_of_le (h.cp.d1 k hk).1.2 tt.size⟩, (h.cp.d1 k hk).2.1, fresh k (h.cp.d1 k hk).1.2 (h.cp.d1 k hk).2.2.1, (h.cp.d1 k hk).2.2.2⟩
 ·exact fun k hk => ⟨⟨(h.cp.d4 k hk).1.1, Nat.lt_of_lt_of_le (h.cp.d4 k hk).1.2 tt.size⟩, fresh k (h.cp.d4 k hk).1.2 (h.cp.d4 k hk).2.1, (h.cp.d4 k hk).2.2⟩
 ·exact fun k hk e => fresh k (hua k e) (nat k e) hk
 ·exact owns_turns h.und tt (fun k hk hs => hs.elim (fun e => h.neT.2.2 (e ▸ hk)) (h.du k hk).2.2.1)
 ·exact fun k hk => ⟨(h.du k hk).1, (h.du k hk).2.1, fresh k (huu k hk) (h.du k hk).2.2.1, (h.du k hk).2.2.2⟩
noncomputable def hearQ (p : Pa) (e : Ev) : Pa := match antiO p.a e.g with
 | some i => p.dropA i
 | none => (p.back (cutK p.p e)).ins e
noncomputable def hearU (p : Pa) (e : Ev) : List Ev := match antiO p.a e.g with
 | some _ => []
 | none => undoL p.p (cutK p.p e)
theorem hearQ_some {p : Pa} {e : Ev} {i : Nat} (h : antiO p.a e.g = some i) : hearQ p e = p.dropA i ∧ hearU p e = [] := by unfold hearQ hearU; rw [h]; exact ⟨rfl, rfl⟩
theorem hearQ_none {p : Pa} {e : Ev} (h : antiO p.a e.g = none) : hearQ p e = (p.back (cutK p.p e)).ins e ∧ hearU p e = undoL p.p (cutK p.p e) := by unfold hearQ hearU; rw [h]; exact ⟨rfl, rfl⟩
theorem num_zero9 {a b : Int} (h : num a b = 0) : a = b := by
 unfold num at h
 split at h
 ·cases h
 ·split at h
  ·cases h
  ·omega
theorem cmp_zero_tag {a b : Ev} (h : a.cmp b = 0) : a.g = b.g := by
 unfold Ev.cmp cmpI at h
 split at h
 ·exact absurd (num_zero9 h) (by assumption)
 ·split at h
  ·exact absurd (num_zero9 h) (by assumption)
  ·split at h
   ·exact absurd (num_zero9 h) (by assumption)
   ·exact num_zero9 h
theorem back_facts {p : Pa} {e : Ev} (hg : GoodP p) (hk : ∀ j, j < p.all.length → (evAt p.all j).g ≠ e.g) : let l := (p.back (cutK p.p e)).t; (∀ j, j < l.length - 1 → (evAt l j).cmp (evAt l (j + 1)) < 0) ∧ (∀ j, j < l.length → (evAt l j).ok = true) ∧ ∀ j, j < l.length → (evAt l j).cmp e ≠ 0 := by
 have hj : cutK p.p e ≤ p.p.length := (cutK_at p.p e).le
 intro l
 have el : l = p.all.drop (cutK p.p e) := back_todo p hj
 have hll : l.length = p.all.length - cutK p.p e := by rw [el, List.length_drop]
 have hat : ∀ j, evAt l j = evAt p.all (cutK p.p e + j) := fun j => by rw [el]; exact evAt_drop _ _ _
 refine ⟨fun j hj => ?_, fun j hj => ?_, fun j hj => ?_⟩
 ·rw [hat, hat]
  exact all_chain hg _ (by omega)
 ·rw [hat]
  exact hg.2.2.2.2.1.1 _ (by omega)
 ·rw [hat]
  intro h0
  exact hk _ (by omega) (cmp_zero_tag h0)
theorem hear_len {p : Pa} {e : Ev} (hg : GoodP p) : (p.back (cutK p.p e)).t.length + 1 ≤ 3000 := by
 have hj : cutK p.p e ≤ p.p.length := (cutK_at p.p e).le
 rw [back_todo p hj, List.length_drop, all_length]
 have := hg.1
 omega
set_option maxRecDepth 100000 in
set_option maxHeartbeats 16000000 in
theorem hear_any (B D : Nat) (p : Pa) (e : Ev) (vr vp vt va : Value) (A1 A4 : Nat → Prop) (w : World) (hw : p.wt ≤ 1048576) (hg : GoodP p) (he : e.ok = true) (hkn : ∀ j, j < p.all.length → (evAt p.all j).g ≠ e.g) (hB : B ≤ w.heap.size) (h : DoR B D w vr vp vt va (.slice none 0 0) A1 A4 p.rev []) :
  Calls Tryz.prog 66 #[.pointer (some ⟨D, 0, none⟩), e.val] w fun r w' => (∃ u, r = .returned u) ∧ (∃ vr' vp' vt' va' vu' A1' A4', DoR B D w' vr' vp' vt' va' vu' A1' A4' (hearQ p e).rev (hearU p e)) ∧ Below B w w' := by
 have HG : Hid (GoodP p) := hg
 have HWT : Hid (p.wt ≤ 1048576) := hw
 have HEV : Hid (e.ok = true) := he
 have HKN : Hid (∀ j, j < p.all.length → (evAt p.all j).g ≠ e.g) := hkn
 obtain ⟨W0, hW0⟩ : ∃ V, w.alloc (.cells #[.int .i64 e.t, .int .i64 e.s, .int .i64 e.q, .int .i64 e.d, .int .i64 e.k, .int .i64 e.v, .int .i64 e.g] 55) = V := ⟨_, rfl⟩
 have hb0 : Below w.heap.size w W0 := hW0 ▸ (Below.refl _ w).alloc (Nat.le_refl _) _
 have HB0 : Hid (Below w.heap.size w W0) := hb0
 have HE : Hid (Bk W0 w.heap.size 55 #[.int .i64 e.t, .int .i64 e.s, .int .i64 e.q, .int .i64 e.d, .int .i64 e.k, .int .i64 e.v, .int .i64 e.g]) := hW0 ▸ Bk.new _ _ _
 have H0 : Hid (DoR B D W0 vr vp vt va (.slice none 0 0) A1 A4 p.rev []) := h.below hb0
 have HNS : Hid (¬ (w.heap.size = D ∨ A4 w.heap.size ∨ vt.ownBlock = some w.heap.size)) := fun e1 => by
  rcases e1 with e1 | e1 | e1
  ·have := h.blk.lt; omega
  ·have := (h.cp.d4 _ e1).1.2; omega
  ·have := owns_lt h.cp.todo e1; omega
 have hs0 : w.heap.size < W0.heap.size := HE.out.lt
 have hla : p.rev.a.length ≤ 1048577 := by have := hg.1; show p.a.length ≤ _; omega
 have HAS : Hid (Asc p.rev.a) := hg.2.2.2.2.2
 clear hb0 hg hw he hkn h
 have e0 := HE.out.cell (i := 0) rfl
 have e1 := HE.out.cell (i := 1) rfl
 have e2 := HE.out.cell (i := 2) rfl
 have e3 := HE.out.cell (i := 3) rfl
 have e4 := HE.out.cell (i := 4) rfl
 have e5 := HE.out.cell (i := 5) rfl
 have e6 := HE.out.cell (i := 6) rfl
 unfold Ev.val
 go_enter Tryz.func66, Tryz.ntmps66
 go_wp2_with fail
 clear hW0 e0 e1 e2 e3 e4 e5 e6
 refine (dropAnti_any B D vr vp vt va (.slice none 0 0) A1 A4 p.rev [] e.g W0 hla HAS.out H0.out).mono ?_
 rintro r w1 hR
 rcases hR with ⟨hN, rfl, hw1⟩ | ⟨i, va', hN, rfl, hD, hT⟩
 case inr =>
  have HQ := hearQ_some (p := p) (e := e) hN
  have HR : Hid ((∃ vr' vp' vt' va' vu' A1' A4', DoR B D w1 vr' vp' vt' va' vu' A1' A4' (hearQ p e).rev (hearU p e)) ∧ Below B w w1) := by
   refine ⟨?_, ?_⟩
   ·rw [HQ.1, HQ.2]
    exact ⟨vr, vp, vt, va', _, A1, A4, hD⟩
   ·refine (HB0.out.mono hB).trans (hT.to_below (fun k hk => ?_) (by omega))
    rcases hk with hk | hk
    ·exact hk ▸ H0.out.lo
    ·exact (World.ownsRow.lt H0.out.cp.antis k hk).1
  clear HQ hD hT hN
  go_wp2
  go_end0
  exact ⟨⟨_, rfl⟩, HR.out⟩
 have hw1' := hw1.symm
 clear hw1
 subst hw1'
 have HQ : Hid (hearQ p e = (p.back (cutK p.p e)).ins e ∧ hearU p e = undoL p.p (cutK p.p e)) := hearQ_none hN
 clear hN
 have e0 := HE.out.cell (i := 0) rfl
 have e1 := HE.out.cell (i := 1) rfl
 have e2 := HE.out.cell (i := 2) rfl
 have e3 := HE.out.cell (i := 3) rfl
 have e4 := HE.out.cell (i := 4) rfl
 have e5 := HE.out.cell (i := 5) rfl
 have e6 := HE.out.cell (i := 6) rfl
 go_wp2_with fail
 clear e0 e1 e2 e3 e4 e5 e6
 refine (goBackF B D p e vr vp vt va A1 A4 W0 HWT.out HG.out HEV.out (by omega) (fun k => k = D ∨ A4 k ∨ vt.ownBlock = some k) (.inl rfl) (fun q hq => .inr (.inl hq)) (fun q hq => .inr (.inr hq)) H0.out).mono ?_
 rintro r w2 ⟨⟨u2, rfl⟩, ⟨vr2, vp2, vt2, vu2, C1, C4, hd⟩, hb2, ht2⟩
 have HE2 : Hid (Bk w2 w.heap.size 55 #[.int .i64 e.t, .int .i64 e.s, .int .i64 e.q, .int .i64 e.d, .int .i64 e.k, .int .i64 e.v, .int .i64 e.g]) := HE.out.turns ht2 HNS.out
 have HB2 : Hid (Below B w w2) := (HB0.out.mono hB).trans hb2
 have HD2 : Hid (DoR B D w2 vr2 vp2 vt2 va vu2 C1 C4 (p.back (cutK p.p e)).rev (undoL p.p (cutK p.p e))) := hd
 have hsz2 : B ≤ w2.heap.size := Nat.le_trans hB HB2.out.size
 clear hd hb2 ht2
 have e0 := HE2.out.cell (i := 0) rfl
 have e1 := HE2.out.cell (i := 1) rfl
 have e2 := HE2.out.cell (i := 2) rfl
 have e3 := HE2.out.cell (i := 3) rfl
 have e4 := HE2.out.cell (i := 4) rfl
 have e5 := HE2.out.cell (i := 5) rfl
 have e6 := HE2.out.cell (i := 6) rfl
 go_wp2_with fail
 clear e0 e1 e2 e3 e4 e5 e6
 have hlen : (p.back (cutK p.p e)).rev.t.length + 1 ≤ 1048577 := by
  have := hear_len (e := e) HG.out
  show (p.back (cutK p.p e)).t.reverse.length + 1 ≤ _
  rw [List.length_reverse]
  omega
 refine (plan_row B D vr2 _ _ _ vp2 vt2 va vu2 (p.back (cutK p.p e)).rev.t e w2 hsz2 hlen HD2.out.blk HD2.out.cp.todo).mono ?_
 rintro r w3 ⟨⟨u3, rfl⟩, vt3, i, hF, hbk, hown, hnew, ht3⟩
 have HR : Hid ((∃ vr' vp' vt' va' vu' A1' A4', DoR B D w3 vr' vp' vt' va' vu' A1' A4' (hearQ p e).rev (hearU p e)) ∧ Below B w w3) := by
  refine ⟨?_, ?_⟩
  ·rw [HQ.out.1, HQ.out.2]
   obtain ⟨f1, f2, f3⟩ := back_facts (e := e) HG.out HKN.out
   have hi := found_ins f1 f2 HEV.out f3 hF
   have hrow : (p.back (cutK p.p e)).rev.t.take i ++ e :: (p.back (cutK p.p e)).rev.t.drop i = ((p.back (cutK p.p e)).ins e).rev.t := by
    show (p.back (cutK p.p e)).t.reverse.take i ++ e :: (p.back (cutK p.p e)).t.reverse.drop i = ((p.back (cutK p.p e)).t.take _ ++ e :: (p.back (cutK p.p e)).t.drop _).reverse
    rw [ins_rev, hi]
   rw [cellsL_put, hrow] at hown
   have hll : (p.back (cutK p.p e)).rev.t.length + 1 = ((p.back (cutK p.p e)).ins e).rev.t.length := by
    rw [← hrow]
    simp
    have := hF.le
    omega
   rw [hll] at hown
   exact ⟨vr2, vp2, vt3, va, vu2, C1, C4, HD2.out.setT hbk hown hnew ht3⟩
  ·refine HB2.out.trans (ht3.to_below (fun k hk => ?_) hsz2)
   rcases hk with hk | hk
   ·exact hk ▸ HD2.out.lo
   ·exact (World.ownsRow.lt HD2.out.cp.todo k hk).1
 clear hF hbk hown hnew ht3 hlen
 go_wp2
 go_end0
 exact ⟨⟨_, rfl⟩, HR.out⟩
end Go.Proofs.YtnccenbkpocjgaaGreat

/- Hear, in plain words. -/
namespace Go.Proofs.YtnccenbkpocjgaaGreat
open Go.RowKit
def AnsH (w w' : World) (r : Ending) (a : Pa) (l : List Ev) (b : Bool) : Prop := ∃ y1 y2, r = .returned (.tuple #[y1, y2, .bool b]) ∧ Below w.heap.size w w' ∧ A2 (fun k => w.heap.size ≤ k ∧ k < w'.heap.size) w' y1 y2 a (evsD l)
noncomputable def knowsB (p : Pa) (g : Int) : Bool := @decide (∃ i, i < p.all.length ∧ (evAt p.all i).g = g) (Classical.propDecidable _)
theorem knowsB_iff {p : Pa} {g : Int} : knowsB p g = true ↔ ∃ i, i < p.all.length ∧ (evAt p.all i).g = g := by unfold knowsB; simp
noncomputable def hearOk (p : Pa) (e : Ev) : Bool := p.ok && e.ok && decide (e.d = p.n) && !knowsB p e.g
theorem hearOk_iff {p : Pa} {e : Ev} : hearOk p e = true ↔ p.ok = true ∧ e.ok = true ∧ e.d = p.n ∧ knowsB p e.g = false := by
 unfold hearOk
 simp [and_assoc]
noncomputable def hearA (p : Pa) (e : Ev) : Pa := if hearOk p e = true then outA (hearQ p e) p else Pa.none
noncomputable def hearB (p : Pa) (e : Ev) : List Ev := if hearOk p e = true then outB (hearQ p e) (hearU p e) else []
noncomputable def hearC (p : Pa) (e : Ev) : Bool := hearOk p e && (hearQ p e).ok
theorem hear_not {p : Pa} {e : Ev} (h : ¬ hearOk p e = true) : hearA p e = Pa.none ∧ hearB p e = [] ∧ hearC p e = false := by
 unfold hearA hearB hearC
 rw [if_neg h, if_neg h]
 refine ⟨rfl, rfl, ?_⟩
 cases hh : hearOk p e
 ·rfl
 ·exact absurd hh h
theorem hear_yes {p : Pa} {e : Ev} (h : hearOk p e = true) : hearA p e = outA (hearQ p e) p ∧ hearB p e = outB (hearQ p e) (hearU p e) ∧ hearC p e = (hearQ p e).ok := by
 unfold hearA hearB hearC
 rw [if_pos h, if_pos h, h]
 exact ⟨rfl, rfl, rfl⟩
theorem sumL_b9 {f : Nat → Nat} {b : Nat} : ∀ {n : Nat}, (∀ j, j < n → f j ≤ b) → sumL f n ≤ n * b
 | 0, _ => by simp [sumL]
 | n + 1, h => by
  have h1 := sumL_b9 (f := f) (b := b) (n := n) (fun j hj => h j (by omega))
  have h2 := h n (by omega)
  simp only [sumL]
  rw [Nat.add_mul]
  omega
theorem st_two {s : St} (h : s.ok = true) : s.r.length = 2 := by
 unfold St.ok at h
 exact (of_decide_eq_true h).1
theorem ps_wt9 {p : Pa} (hg : GoodP p) {i : Nat} (hi : i < p.p.length) : (psAt p.p i).wt ≤ 18 := by
 obtain ⟨h1, h2, h3⟩ := hg.2.2.2.1 i hi
 unfold Ps.wt
 rw [ints_wt, evs_wt, ems_wt, st_two h1]
 unfold sentsB at h2
 unfold emsB at h3
 have h4 : (psAt p.p i).s.length ≤ 8 := of_decide_eq_true (Bool.and_eq_true_iff.1 h2).1
 have h5 : (psAt p.p i).x.length ≤ 8 := of_decide_eq_true (Bool.and_eq_true_iff.1 h3).1
 omega
theorem psTake9 {l : List Ps} {j k : Nat} (h : k < j) : psAt (l.take j) k = psAt l k := by
 unfold psAt
 rw [List.getD_eq_getElem?_getD, List.getD_eq_getElem?_getD, List.getElem?_take_of_lt h]
theorem take_wt9 {p : Pa} (hg : GoodP p) (j : Nat) : (pastsD (p.p.take j)).wt ≤ 3800 := by
 rw [pastsD_wt]
 have hl : (p.p.take j).length ≤ 200 := by rw [List.length_take]; have := hg.1.1; omega
 have h1 : sumL (fun i => (psAt (p.p.take j) i).wt) (p.p.take j).length ≤ (p.p.take j).length * 18 := sumL_b9 (fun i hi => by
  have hlt : i < p.p.length := by rw [List.length_take] at hi; omega
  have hij : i < j := by rw [List.length_take] at hi; omega
  show (psAt (p.p.take j) i).wt ≤ 18
  rw [psTake9 hij]
  exact ps_wt9 hg hlt)
 omega
theorem good_small {p : Pa} (hg : GoodP p) : p.wt ≤ 10000 := by
 have h1 := take_wt9 hg p.p.length
 rw [List.take_length] at h1
 have h2 := st_two hg.2.2.1
 have h3 := hg.1
 unfold Pa.wt
 rw [ints_wt, evs_wt, ints_wt]
 omega
theorem back_small9 {p : Pa} {e : Ev} (hg : GoodP p) : (p.back (cutK p.p e)).st.r.length = 2 ∧ (pastsD (p.back (cutK p.p e)).p).wt ≤ 3800 ∧ (p.back (cutK p.p e)).t.length ≤ 2999 ∧ (p.back (cutK p.p e)).a.length ≤ 2000 := by
 have hk := (cutK_at p.p e).le
 refine ⟨?_, take_wt9 hg _, by have := hear_len (e := e) hg; omega, hg.1.2.2⟩
 by_cases hlt : cutK p.p e < p.p.length
 ·rw [back_st p hlt]
  exact st_two (hg.2.2.2.1 _ hlt).1
 ·show (if cutK p.p e < p.p.length then _ else p.st : St).r.length = 2
  rw [if_neg hlt]
  exact st_two hg.2.2.1
theorem ins_len (l : List Ev) (e : Ev) : (l.take (insP l e) ++ e :: l.drop (insP l e)).length = l.length + 1 := by
 have := (insP_at l e).1
 simp
 omega
theorem hearQ_wt {p : Pa} {e : Ev} (hg : GoodP p) : (hearQ p e).wt ≤ 10000 := by
 cases ha : antiO p.a e.g with
 | some i =>
  rw [(hearQ_some ha).1]
  have h1 := take_wt9 hg p.p.length
  rw [List.take_length] at h1
  have h2 := st_two hg.2.2.1
  have h3 := hg.1
  unfold Pa.wt Pa.dropA
  dsimp only
  rw [ints_wt, evs_wt, ints_wt, List.length_append, List.length_take, List.length_drop]
  omega
 | none =>
  rw [(hearQ_none ha).1]
  obtain ⟨h1, h2, h3, h4⟩ := back_small9 (e := e) hg
  unfold Pa.wt Pa.ins
  dsimp only
  rw [ints_wt, evs_wt, ints_wt, ins_len, h1]
  omega
theorem hearU_len {p : Pa} {e : Ev} (hg : GoodP p) : (hearU p e).length ≤ 10000 := by
 cases ha : antiO p.a e.g with
 | some i => rw [(hearQ_some ha).2]; simp
 | none =>
  rw [(hearQ_none ha).2]
  have h1 := undo_len (p := p) (cutK_at p.p e).le
  have h2 := take_wt9 hg p.p.length
  rw [List.take_length] at h2
  omega
theorem hear_small {p : Pa} {e : Ev} : (hearA p e).wt ≤ 1048576 ∧ (evsD (hearB p e)).wt ≤ 1048576 := by
 rw [evs_wt]
 cases hh : hearOk p e
 ·obtain ⟨h1, h2, _⟩ := hear_not (p := p) (e := e) (by rw [hh]; simp)
  rw [h1, h2]
  exact ⟨none_wt, by simp⟩
 ·obtain ⟨h1, h2, _⟩ := hear_yes hh
  have hg : GoodP p := Pa.ok_iff.1 (hearOk_iff.1 hh).1
  rw [h1, h2]
  unfold outA outB
  have h3 := good_small hg
  have h4 := hearQ_wt (e := e) hg
  have h5 := hearU_len (e := e) hg
  constructor
  ·split <;> omega
  ·split
   ·omega
   ·simp
end Go.Proofs.YtnccenbkpocjgaaGreat

/- The program's tagThere. -/
namespace Go.Proofs.YtnccenbkpocjgaaGreat
open Go.RowKit Go.Shelf
attribute [local go_sem] Oper.semAt_some
set_option maxRecDepth 100000 in
set_option maxHeartbeats 4000000 in
theorem tagThere_any (a : Option Addr) (cap b : Nat) (l : List Ev) (lp : Int) (w : World) (hl : l.length ≤ 1048576) (hI : l = [] ∨ ∃ off, a = some ⟨b, off, none⟩ ∧ EvsAt w b off l) (hb : b < w.heap.size) :
  Calls Tryz.prog 63 #[.slice a l.length cap, .int .i64 lp] w fun e w' => Says e (∃ i, i < l.length ∧ (evAt l i).g = lp) ∧ Below w.heap.size w w' := by
 refine (callsIn_wide (n := 5)).1 ?_
 refine callsIn_of_wp_marks Tryz.func63 rfl trivial ?_ rfl
 simp only [Tryz.ntmps63, List.size_toArray, List.length_cons, List.length_nil, Nat.reduceAdd, Nat.reduceSub, Array.replicate_succ, Array.replicate_zero, List.push_toArray, List.append_toArray, List.nil_append, List.cons_append]
 gi_wp2_with (refine ⟨trivial, ?_⟩; gi_at_call 40; refine (callsIn_wide.2 (each_any _ _ _ _)).mono ?_; rintro e w' ⟨rfl, rfl⟩)
 obtain ⟨Wc, hWc⟩ : ∃ Wc, (((w.alloc (.cells #[.int .i64 lp] 3)).alloc (.cells #[.bool false] 4)).alloc (.cells #[.slice a l.length cap] 31)) = Wc := ⟨_, rfl⟩
 have hB0 : Below w.heap.size w Wc := by rw [← hWc]; exact (((Below.refl _ w).alloc (Nat.le_refl _) _).alloc (by simp) _).alloc (by simp; omega) _
 have hsz : Wc.heap.size = w.heap.size + 3 := by rw [← hWc]; simp
 have cL : Bk Wc w.heap.size 3 #[.int .i64 lp] := by rw [← hWc]; exact ((Bk.new w _ _).alloc _).alloc _
 have cR : Bk Wc (w.heap.size + 1) 4 #[.bool false] := by rw [← hWc]; exact (Bk.newAt (by simp) _ _).alloc _
 have cS : Bk Wc (w.heap.size + 2) 31 #[.slice a l.length cap] := by rw [← hWc]; exact Bk.newAt (by simp) _ _
 simp only [hWc, Nat.add_assoc, Nat.reduceAdd]
 refine wpIn_rangeFunc_ownH rfl (by omega) (gf := 93) (lb := #[.pointer (some ⟨w.heap.size + 2, 0, none⟩)]) rfl trivial (enters_of Tryz.func93 (by kernel_rfl) rfl)
  (each_stops Fence.wide 4 trivial rfl (by omega) (w.heap.size + 2) b a cap l hl _ (by omega) (cS.cell (i := 0) rfl) (hI.imp id (fun ⟨off, e, h⟩ => ⟨off, e, h.below hB0 hb⟩))) Same2.trans (Same2.putObj (by omega) (by omega)) (Below.refl _ _) (fun _ => rfl)
  (fun pre W => ((∀ x ∈ pre, (evAt l x.val).g ≠ lp) ∧ W.cell? ⟨w.heap.size + 1, 0, none⟩ = some (.bool false) ∧ W.frozen? ⟨w.heap.size + 1, 0, none⟩ = false ∧ W.cell? ⟨w.heap.size, 0, none⟩ = some (.int .i64 lp)) ∧ Below (w.heap.size + 3) Wc W)
  (fun c pre W => (c = .ret ∧ (∃ x : Fin l.length, (evAt l x.val).g = lp) ∧ W.cell? ⟨w.heap.size + 1, 0, none⟩ = some (.bool true)) ∧ Below w.heap.size w W)
  (OwnFrom.and (Own.from (fun s A B row hs hg hr => ⟨hs.1, cell_kept hs.2.1 hg hr, (frozen_kept hs.2.1 hg hr).trans hs.2.2.1, cell_kept hs.2.2.2 hg hr⟩) _) (ownFrom_below (by omega) (by omega)))
  (fun c => OwnFrom.and (Own.from (fun s A B row hs hg hr => ⟨hs.1, hs.2.1, cell_kept hs.2.2 hg hr⟩) _) (ownFrom_below (Nat.le_refl _) (by omega)))
  ⟨⟨by simp, cR.cell (i := 0) rfl, cR.free 0, cL.cell (i := 0) rfl⟩, by rw [← hsz]; exact Below.refl _ _⟩
  (fun x a' W => ∃ Bx, w.heap.size + 3 ≤ Bx ∧ Bx < W.heap.size ∧ Ev.In W Bx 0 (evAt l x.val) ∧ a' = { tmps := #[.slice a l.length cap, .int .i64 lp, undef, .pointer (some ⟨w.heap.size, 0, none⟩), .pointer (some ⟨w.heap.size + 1, 0, none⟩), undef, .pointer (some ⟨Bx, 0, none⟩), .slice a l.length cap, .func (.func 93) #[] #[.pointer (some ⟨w.heap.size + 2, 0, none⟩)], .int .i64 ((x.val : Nat) : Int), (evAt l x.val).val, undef, undef, undef, undef], defers := [] })
  (fun x a' s A B row hs hg hr => by obtain ⟨Bx, h1, h2, h3, h4⟩ := hs; exact ⟨Bx, h1, Nat.lt_of_lt_of_le h2 hg.size, h3.kept hg (fun r e => (hr r e).2), h4⟩) ?assign ?body ?done ?stop
 case assign =>
  rintro lp' pre x W K ⟨⟨hp, hc, hf, hc2⟩, hB⟩ hK
  gi_wp2
  have hz : w.heap.size + 3 ≤ W.heap.size := by have := hB.size; omega
  have hBW : Below W.heap.size W (W.alloc (.cells #[.int .i64 (evAt l x.val).t, .int .i64 (evAt l x.val).s, .int .i64 (evAt l x.val).q, .int .i64 (evAt l x.val).d, .int .i64 (evAt l x.val).k, .int .i64 (evAt l x.val).v, .int .i64 (evAt l x.val).g] 55)) := (Below.refl _ W).alloc (Nat.le_refl _) _
  exact hK _ _ ((KeepsOthers.alloc _ _).from _) (Same2.below hBW (by omega) (by omega)) ⟨⟨hp, (hBW.cell (p := ⟨w.heap.size + 1, 0, none⟩) (by simp; omega)).trans hc, (hBW.frozen (p := ⟨w.heap.size + 1, 0, none⟩) (by simp; omega)).trans hf, (hBW.cell (p := ⟨w.heap.size, 0, none⟩) (by simp; omega)).trans hc2⟩, hB.trans (hBW.mono (by omega))⟩ ⟨W.heap.size, by omega, by simp, EvAt.new _ _ _ _ _ _ _ _ _, rfl⟩
 case body =>
  rintro lp' pre x a' W hlp _ ⟨⟨hp, hc, hf, hc2⟩, hB⟩ ⟨Bx, h1, h2, h3, rfl⟩ hlt
  have hz : w.heap.size + 3 ≤ W.heap.size := by have := hB.size; omega
  obtain ⟨f0, f1, f2, f3, f4, f5, f6⟩ := h3.lits
  have HP : Hid (∀ x ∈ pre, (evAt l x.val).g ≠ lp) := hp
  have HB : Hid (Below (w.heap.size + 3) Wc W) := hB
  have HB0 : Hid (Below w.heap.size w Wc) := hB0
  have HC : Hid (W.cell? ⟨w.heap.size + 1, 0, none⟩ = some (.bool false) ∧ W.frozen? ⟨w.heap.size + 1, 0, none⟩ = false ∧ W.cell? ⟨w.heap.size, 0, none⟩ = some (.int .i64 lp)) := ⟨hc, hf, hc2⟩
  clear hp hB h3 cR cS cL hI hB0
  by_cases hd : (evAt l x.val).g = lp
  ·have HD : Hid ((evAt l x.val).g = lp) := hd
   rw [hd] at f6
   clear hd
   gi_wp2
   exact ⟨(KeepsOthers.setCell _ _ _).from _, ⟨rfl, ⟨x, HD.out⟩, World.cell?_setCell_same' _ _ _ (by rw [HC.out.1]; rfl)⟩, (HB0.out.trans (HB.out.mono (by omega))).setCell (p := ⟨w.heap.size + 1, 0, none⟩) (by simp) _⟩
  ·have HD : Hid ((evAt l x.val).g ≠ lp) := hd
   have hdb : ((evAt l x.val).g == lp) = false := by rw [beq_eq_false_iff_ne]; exact hd
   gi_wp2
   exact ⟨(keepsOthers_of_below (Below.refl _ _)).from _, Same2.refl _ _ _, ⟨fun y hy => (List.mem_append.1 hy).elim (HP.out y) (fun e => by simp at e; subst e; exact HD.out), HC.out⟩, HB.out⟩
 case done =>
  rintro D ys W hD rfl ⟨⟨hp, hc, hf, hc2⟩, hB⟩ hK
  have HP : Hid (∀ x ∈ List.finRange l.length, (evAt l x.val).g ≠ lp) := hp
  clear hp
  gi_wp2
  have hK' := (KeepsOthers.setCell W ⟨w.heap.size + 1, 0, none⟩ (.bool false)).same D _ hK rfl
  refine ⟨by simp, .inl ⟨_, _, rfl, run_takeDeferred hK', ?_⟩⟩
  have hc5 := cell_kept (World.cell?_setCell_same' W ⟨w.heap.size + 1, 0, none⟩ (.bool false) (by rw [hc]; rfl)) (grownBy_putObj' _ D (.deferred none)) (fun r e => by cases e; exact ⟨_, hK', rfl⟩)
  refine ⟨.bool false, ?_, Says.no (fun ⟨i, hi, e⟩ => HP.out ⟨i, hi⟩ (List.mem_finRange _) e), ((hB0.trans (hB.mono (by omega))).setCell (p := ⟨w.heap.size + 1, 0, none⟩) (by simp) _).trans (belowK_b (w := w) (Nat.le_refl _) _ D _ _ (by omega) hK' rfl rfl)⟩
  simp [results, Tryz.f63, go_sem, hc5]
 case stop =>
  rintro D c pre W hD _ ⟨⟨rfl, ⟨x, hx⟩, hc⟩, hB⟩ hK
  have HX : Hid ((evAt l x.val).g = lp) := hx
  clear hx
  gi_wp2
  refine ⟨by simp, .inl ⟨_, _, rfl, run_takeDeferred hK, ?_⟩⟩
  have hc5 := cell_kept hc (grownBy_putObj' _ D (.deferred none)) (fun r e => by cases e; exact ⟨_, hK, rfl⟩)
  refine ⟨.bool true, ?_, Says.yes ⟨x.val, x.isLt, HX.out⟩, hB.trans (belowK_b (w := w) (Nat.le_refl _) W D _ _ (by omega) hK rfl rfl)⟩
  simp [results, Tryz.f63, go_sem, hc5]
theorem tagThere_is (x : Value) (l : List Ev) (g : Int) (c : Bool) (hc : c = true ↔ ∃ i, i < l.length ∧ (evAt l i).g = g) (w : World) (hl : l.length ≤ 1048576) (hp : 0 < w.heap.size) (hI : IsEvs w x l) :
  Calls Tryz.prog 63 #[x, .int .i64 g] w fun e w' => e = .returned (.bool c) ∧ Below w.heap.size w w' := by
 obtain ⟨a, cap, b, rfl, hb, hI⟩ := hI.parts hp
 refine (tagThere_any a cap b l g w hl hI hb).mono ?_
 rintro e w' ⟨⟨d, rfl, hd⟩, hw⟩
 refine ⟨?_, hw⟩
 cases c <;> cases d
 ·rfl
 ·exact absurd (hc.2 (hd.1 rfl)) (by simp)
 ·exact absurd (hd.2 (hc.1 rfl)) (by simp)
 ·rfl
end Go.Proofs.YtnccenbkpocjgaaGreat

/- The program's Hear. -/
namespace Go.Proofs.YtnccenbkpocjgaaGreat
open Go.RowKit
theorem hidHIh {p : Prop} (h : p) : Hid p := h
theorem iPartOk_fix (x : Value) (p : Pa) (b : Bool) (hb : p.ok = b) (w : World) (hw : p.wt ≤ 1048576) (h : IsPart w x p) : Calls Tryz.prog 61 #[x] w fun r w' => r = .returned (.bool b) ∧ Below w.heap.size w w' := hb ▸ iPartOk_is x p w hw h
set_option maxRecDepth 100000 in
set_option maxHeartbeats 32000000 in
theorem iHear (x : Value) (p : Pa) (e : Ev) (w : World) (hw : p.wt ≤ 1048576) (h : IsPart w x p) :
  Calls Tryz.prog 20 #[x, .agg #[.int .i64 e.t, .int .i64 e.s, .int .i64 e.q, .int .i64 e.d, .int .i64 e.k, .int .i64 e.v, .int .i64 e.g]] w fun r w' => AnsH w w' r (hearA p e) (hearB p e) (hearC p e) := by
 have HI : Hid (IsPart w x p) := h
 have HWT : Hid (p.wt ≤ 1048576) := hw
 obtain ⟨u1, u4, u5, u6, rfl, d1, d4, d5, d6⟩ := h
 obtain ⟨W0, hW0⟩ : ∃ W0, ((w.alloc (.cells #[.int .i64 p.n, u1, .int .i64 p.st.q, .int .i64 p.st.d, u4, u5, u6] 33)).alloc (.cells #[.int .i64 e.t, .int .i64 e.s, .int .i64 e.q, .int .i64 e.d, .int .i64 e.k, .int .i64 e.v, .int .i64 e.g] 55)).alloc (.cells #[.int .i64 0, .slice none 0 0, .int .i64 0, .int .i64 0, .slice none 0 0, .slice none 0 0, .slice none 0 0] 33) = W0 := ⟨_, rfl⟩
 have hz0 : W0.heap.size = w.heap.size + 1 + 1 + 1 := by rw [← hW0]; simp
 have hb0 : Below w.heap.size w W0 := hW0 ▸ (((Below.refl _ w).alloc (Nat.le_refl _) _).alloc (by simp) _).alloc (by simp; omega) _
 have HB0 := hidHIh hb0
 have BX : Hid (Bk W0 w.heap.size 33 #[.int .i64 p.n, u1, .int .i64 p.st.q, .int .i64 p.st.d, u4, u5, u6]) := hW0 ▸ ((Bk.new w _ _).alloc _).alloc _
 have BE : Hid (Bk W0 (w.heap.size + 1) 55 #[.int .i64 e.t, .int .i64 e.s, .int .i64 e.q, .int .i64 e.d, .int .i64 e.k, .int .i64 e.v, .int .i64 e.g]) := hW0 ▸ (Bk.newAt (by simp) _ _).alloc _
 have BZ : Hid (Bk W0 (w.heap.size + 1 + 1) 33 #[.int .i64 0, .slice none 0 0, .int .i64 0, .int .i64 0, .slice none 0 0, .slice none 0 0, .slice none 0 0]) := hW0 ▸ Bk.newAt (by simp) _ _
 have hz0' : W0.heap.size ≤ w.heap.size + 1 + 1 + 1 ∧ w.heap.size + 1 + 1 + 1 ≤ W0.heap.size := by omega
 clear hb0 d1 d4 d5 d6 hw hz0
 go_enter Tryz.func20, Tryz.ntmps20
 go_upto_region 1 with fail
 try rw [hW0]
 clear hW0
 have hne : Nonempty (Beyond W0) := ⟨⟨W0, Below.refl _ _⟩⟩
 have HPQ : Hid (∀ q : Beyond W0, IsPart q.w (.agg #[.int .i64 p.n, u1, .int .i64 p.st.q, .int .i64 p.st.d, u4, u5, u6]) p) := fun q => (HI.out.under HB0.out).under q.h
 cases hok : p.ok
 case false =>
  have HOK : Hid (p.ok = false) := hok
  have HNO : Hid (¬ hearOk p e = true) := fun h => by have h1 := (hearOk_iff.1 h).1; rw [hok] at h1; cases h1
  clear hok
  have x0 := BX.out.beyond (i := 0) rfl
  have x1 := BX.out.beyond (i := 1) rfl
  have x2 := BX.out.beyond (i := 2) rfl
  have x3 := BX.out.beyond (i := 3) rfl
  have x4 := BX.out.beyond (i := 4) rfl
  have x5 := BX.out.beyond (i := 5) rfl
  have x6 := BX.out.beyond (i := 6) rfl
  have e0 := BE.out.beyond (i := 0) rfl
  have e1 := BE.out.beyond (i := 1) rfl
  have e2 := BE.out.beyond (i := 2) rfl
  have e3 := BE.out.beyond (i := 3) rfl
  have e4 := BE.out.beyond (i := 4) rfl
  have e5 := BE.out.beyond (i := 5) rfl
  have e6 := BE.out.beyond (i := 6) rfl
  refine wp_region_beyond (by kernel_rfl) (by kernel_rfl) ?_
  repeat (go_big_quiet_step (first | (go_at_call 61; exact Beyond.of (iPartOk_fix _ p false HOK.out _ HWT.out (HPQ.out _)))))
  refine wpQuiet_nil ?_
  rintro w2 ⟨⟨_, hb2⟩, rfl⟩
  have BN := hidHIh (HB0.out.trans (hb2.mono HB0.out.size))
  have ZN := hidHIh (BZ.out.below hb2)
  have hsN : W0.heap.size ≤ w2.heap.size := hb2.size
  clear hb2 hne x0 e0 x1 e1 x2 e2 x3 e3 x4 e4 x5 e5 x6 e6
  have z0 := ZN.out.cell (i := 0) rfl
  have z1 := ZN.out.cell (i := 1) rfl
  have z2 := ZN.out.cell (i := 2) rfl
  have z3 := ZN.out.cell (i := 3) rfl
  have z4 := ZN.out.cell (i := 4) rfl
  have z5 := ZN.out.cell (i := 5) rfl
  have z6 := ZN.out.cell (i := 6) rfl
  have zf := ZN.out.free
  obtain ⟨X5, hX5⟩ : ∃ X5, put7s w2 (w.heap.size + 1 + 1) (.int .i64 0) (.slice none 0 0) (.int .i64 0) (.int .i64 0) (.slice none 0 0) (.slice none 0 0) (.slice none 0 0) = X5 := ⟨_, rfl⟩
  have hP := ZN.out.put7s (.int .i64 0) (.slice none 0 0) (.int .i64 0) (.int .i64 0) (.slice none 0 0) (.slice none 0 0) (.slice none 0 0)
  have ht := put7s_turns w2 (w.heap.size + 1 + 1) (.int .i64 0) (.slice none 0 0) (.int .i64 0) (.int .i64 0) (.slice none 0 0) (.slice none 0 0) (.slice none 0 0)
  rw [hX5] at hP ht
  unfold put7s at hX5
  have HX5 : Hid _ := hX5
  have HP5 := hidHIh hP
  have HT5 := hidHIh ht
  clear hX5 hP ht
  go_wp2
  try rw [HX5.out]
  have t0 := HP5.out.cell (i := 0) rfl
  have t1 := HP5.out.cell (i := 1) rfl
  have t2 := HP5.out.cell (i := 2) rfl
  have t3 := HP5.out.cell (i := 3) rfl
  have t4 := HP5.out.cell (i := 4) rfl
  have t5 := HP5.out.cell (i := 5) rfl
  have t6 := HP5.out.cell (i := 6) rfl
  refine bodyPost_ret (v := .tuple #[.agg #[.int .i64 0, .slice none 0 0, .int .i64 0, .int .i64 0, .slice none 0 0, .slice none 0 0, .slice none 0 0], .slice none 0 0, .bool false]) (by simp [results, Tryz.results20, go_sem, t0, t1, t2, t3, t4, t5, t6]) rfl ?_
  have hA := hear_not (p := p) (e := e) (HNO.out)
  rw [hA.1, hA.2.1, hA.2.2]
  exact ⟨_, _, rfl, BN.out.trans (HT5.out.to_below (fun b e => by omega) BN.out.size), fun _ => False, fun _ => False, none_partF _ _, nilE _, fun _ h => h.elim, fun _ h => h.elim⟩
 have HOK : Hid (p.ok = true) := hok
 clear hok
 cases hev : e.ok
 case false =>
  have HEV : Hid (e.ok = false) := hev
  have HNO : Hid (¬ hearOk p e = true) := fun h => by have h1 := (hearOk_iff.1 h).2.1; rw [hev] at h1; cases h1
  clear hev
  have x0 := BX.out.beyond (i := 0) rfl
  have x1 := BX.out.beyond (i := 1) rfl
  have x2 := BX.out.beyond (i := 2) rfl
  have x3 := BX.out.beyond (i := 3) rfl
  have x4 := BX.out.beyond (i := 4) rfl
  have x5 := BX.out.beyond (i := 5) rfl
  have x6 := BX.out.beyond (i := 6) rfl
  have e0 := BE.out.beyond (i := 0) rfl
  have e1 := BE.out.beyond (i := 1) rfl
  have e2 := BE.out.beyond (i := 2) rfl
  have e3 := BE.out.beyond (i := 3) rfl
  have e4 := BE.out.beyond (i := 4) rfl
  have e5 := BE.out.beyond (i := 5) rfl
  have e6 := BE.out.beyond (i := 6) rfl
  refine wp_region_beyond (by kernel_rfl) (by kernel_rfl) ?_
  repeat (go_big_quiet_step (first | (go_at_call 61; exact Beyond.of (iPartOk_fix _ p true HOK.out _ HWT.out (HPQ.out _))) | (go_at_call 62; exact Beyond.of (iOk_ev e false HEV.out _))))
  refine wpQuiet_nil ?_
  rintro w2 ⟨⟨_, hb2⟩, rfl⟩
  have BN := hidHIh (HB0.out.trans (hb2.mono HB0.out.size))
  have ZN := hidHIh (BZ.out.below hb2)
  have hsN : W0.heap.size ≤ w2.heap.size := hb2.size
  clear hb2 hne x0 e0 x1 e1 x2 e2 x3 e3 x4 e4 x5 e5 x6 e6
  have z0 := ZN.out.cell (i := 0) rfl
  have z1 := ZN.out.cell (i := 1) rfl
  have z2 := ZN.out.cell (i := 2) rfl
  have z3 := ZN.out.cell (i := 3) rfl
  have z4 := ZN.out.cell (i := 4) rfl
  have z5 := ZN.out.cell (i := 5) rfl
  have z6 := ZN.out.cell (i := 6) rfl
  have zf := ZN.out.free
  obtain ⟨X5, hX5⟩ : ∃ X5, put7s w2 (w.heap.size + 1 + 1) (.int .i64 0) (.slice none 0 0) (.int .i64 0) (.int .i64 0) (.slice none 0 0) (.slice none 0 0) (.slice none 0 0) = X5 := ⟨_, rfl⟩
  have hP := ZN.out.put7s (.int .i64 0) (.slice none 0 0) (.int .i64 0) (.int .i64 0) (.slice none 0 0) (.slice none 0 0) (.slice none 0 0)
  have ht := put7s_turns w2 (w.heap.size + 1 + 1) (.int .i64 0) (.slice none 0 0) (.int .i64 0) (.int .i64 0) (.slice none 0 0) (.slice none 0 0) (.slice none 0 0)
  rw [hX5] at hP ht
  unfold put7s at hX5
  have HX5 : Hid _ := hX5
  have HP5 := hidHIh hP
  have HT5 := hidHIh ht
  clear hX5 hP ht
  go_wp2
  try rw [HX5.out]
  have t0 := HP5.out.cell (i := 0) rfl
  have t1 := HP5.out.cell (i := 1) rfl
  have t2 := HP5.out.cell (i := 2) rfl
  have t3 := HP5.out.cell (i := 3) rfl
  have t4 := HP5.out.cell (i := 4) rfl
  have t5 := HP5.out.cell (i := 5) rfl
  have t6 := HP5.out.cell (i := 6) rfl
  refine bodyPost_ret (v := .tuple #[.agg #[.int .i64 0, .slice none 0 0, .int .i64 0, .int .i64 0, .slice none 0 0, .slice none 0 0, .slice none 0 0], .slice none 0 0, .bool false]) (by simp [results, Tryz.results20, go_sem, t0, t1, t2, t3, t4, t5, t6]) rfl ?_
  have hA := hear_not (p := p) (e := e) (HNO.out)
  rw [hA.1, hA.2.1, hA.2.2]
  exact ⟨_, _, rfl, BN.out.trans (HT5.out.to_below (fun b e => by omega) BN.out.size), fun _ => False, fun _ => False, none_partF _ _, nilE _, fun _ h => h.elim, fun _ h => h.elim⟩
 have HEV : Hid (e.ok = true) := hev
 clear hev
 by_cases hdn : e.d = p.n
 case neg =>
  have HNO : Hid (¬ hearOk p e = true) := fun h => hdn (hearOk_iff.1 h).2.2.1
  have hdb : (e.d != p.n) = true := by simpa using hdn
  clear hdn
  have x0 := BX.out.beyond (i := 0) rfl
  have x1 := BX.out.beyond (i := 1) rfl
  have x2 := BX.out.beyond (i := 2) rfl
  have x3 := BX.out.beyond (i := 3) rfl
  have x4 := BX.out.beyond (i := 4) rfl
  have x5 := BX.out.beyond (i := 5) rfl
  have x6 := BX.out.beyond (i := 6) rfl
  have e0 := BE.out.beyond (i := 0) rfl
  have e1 := BE.out.beyond (i := 1) rfl
  have e2 := BE.out.beyond (i := 2) rfl
  have e3 := BE.out.beyond (i := 3) rfl
  have e4 := BE.out.beyond (i := 4) rfl
  have e5 := BE.out.beyond (i := 5) rfl
  have e6 := BE.out.beyond (i := 6) rfl
  refine wp_region_beyond (by kernel_rfl) (by kernel_rfl) ?_
  repeat (go_big_quiet_step (first | (go_at_call 61; exact Beyond.of (iPartOk_fix _ p true HOK.out _ HWT.out (HPQ.out _))) | (go_at_call 62; exact Beyond.of (iOk_ev e true HEV.out _))))
  refine wpQuiet_nil ?_
  rintro w2 ⟨⟨_, hb2⟩, rfl⟩
  have BN := hidHIh (HB0.out.trans (hb2.mono HB0.out.size))
  have ZN := hidHIh (BZ.out.below hb2)
  have hsN : W0.heap.size ≤ w2.heap.size := hb2.size
  clear hb2 hne x0 e0 x1 e1 x2 e2 x3 e3 x4 e4 x5 e5 x6 e6
  have z0 := ZN.out.cell (i := 0) rfl
  have z1 := ZN.out.cell (i := 1) rfl
  have z2 := ZN.out.cell (i := 2) rfl
  have z3 := ZN.out.cell (i := 3) rfl
  have z4 := ZN.out.cell (i := 4) rfl
  have z5 := ZN.out.cell (i := 5) rfl
  have z6 := ZN.out.cell (i := 6) rfl
  have zf := ZN.out.free
  obtain ⟨X5, hX5⟩ : ∃ X5, put7s w2 (w.heap.size + 1 + 1) (.int .i64 0) (.slice none 0 0) (.int .i64 0) (.int .i64 0) (.slice none 0 0) (.slice none 0 0) (.slice none 0 0) = X5 := ⟨_, rfl⟩
  have hP := ZN.out.put7s (.int .i64 0) (.slice none 0 0) (.int .i64 0) (.int .i64 0) (.slice none 0 0) (.slice none 0 0) (.slice none 0 0)
  have ht := put7s_turns w2 (w.heap.size + 1 + 1) (.int .i64 0) (.slice none 0 0) (.int .i64 0) (.int .i64 0) (.slice none 0 0) (.slice none 0 0) (.slice none 0 0)
  rw [hX5] at hP ht
  unfold put7s at hX5
  have HX5 : Hid _ := hX5
  have HP5 := hidHIh hP
  have HT5 := hidHIh ht
  clear hX5 hP ht
  go_wp2
  try rw [HX5.out]
  have t0 := HP5.out.cell (i := 0) rfl
  have t1 := HP5.out.cell (i := 1) rfl
  have t2 := HP5.out.cell (i := 2) rfl
  have t3 := HP5.out.cell (i := 3) rfl
  have t4 := HP5.out.cell (i := 4) rfl
  have t5 := HP5.out.cell (i := 5) rfl
  have t6 := HP5.out.cell (i := 6) rfl
  refine bodyPost_ret (v := .tuple #[.agg #[.int .i64 0, .slice none 0 0, .int .i64 0, .int .i64 0, .slice none 0 0, .slice none 0 0, .slice none 0 0], .slice none 0 0, .bool false]) (by simp [results, Tryz.results20, go_sem, t0, t1, t2, t3, t4, t5, t6]) rfl ?_
  have hA := hear_not (p := p) (e := e) (HNO.out)
  rw [hA.1, hA.2.1, hA.2.2]
  exact ⟨_, _, rfl, BN.out.trans (HT5.out.to_below (fun b e => by omega) BN.out.size), fun _ => False, fun _ => False, none_partF _ _, nilE _, fun _ h => h.elim, fun _ h => h.elim⟩
 have HDN : Hid (e.d = p.n) := hdn
 have hdb : (e.d != p.n) = false := by simpa using hdn
 clear hdn hne HPQ
 have HG : Hid (GoodP p) := Pa.ok_iff.1 HOK.out
 have hall : p.all.length ≤ 1048576 := by have h9 := HG.out.1; rw [all_length]; omega
 have B_0 : Hid (Below W0.heap.size W0 W0.drew) := (Below.refl _ W0).drew
 have X_0 := hidHIh BX.out.drew
 have E_0 := hidHIh BE.out.drew
 have S_0 : Hid (W0.drew.cell? ⟨w.heap.size, 0, none⟩ = some (.int .i64 p.n) ∧ W0.drew.cell? ⟨w.heap.size, 1, none⟩ = some (u1) ∧ W0.drew.cell? ⟨w.heap.size, 2, none⟩ = some (.int .i64 p.st.q) ∧ W0.drew.cell? ⟨w.heap.size, 3, none⟩ = some (.int .i64 p.st.d) ∧ W0.drew.cell? ⟨w.heap.size, 4, none⟩ = some (u4) ∧ W0.drew.cell? ⟨w.heap.size, 5, none⟩ = some (u5) ∧ W0.drew.cell? ⟨w.heap.size, 6, none⟩ = some (u6) ∧ W0.drew.cell? ⟨w.heap.size + 1, 0, none⟩ = some (.int .i64 e.t) ∧ W0.drew.cell? ⟨w.heap.size + 1, 1, none⟩ = some (.int .i64 e.s) ∧ W0.drew.cell? ⟨w.heap.size + 1, 2, none⟩ = some (.int .i64 e.q) ∧ W0.drew.cell? ⟨w.heap.size + 1, 3, none⟩ = some (.int .i64 e.d) ∧ W0.drew.cell? ⟨w.heap.size + 1, 4, none⟩ = some (.int .i64 e.k) ∧ W0.drew.cell? ⟨w.heap.size + 1, 5, none⟩ = some (.int .i64 e.v) ∧ W0.drew.cell? ⟨w.heap.size + 1, 6, none⟩ = some (.int .i64 e.g)) := ⟨X_0.out.cell (i := 0) rfl, X_0.out.cell (i := 1) rfl, X_0.out.cell (i := 2) rfl, X_0.out.cell (i := 3) rfl, X_0.out.cell (i := 4) rfl, X_0.out.cell (i := 5) rfl, X_0.out.cell (i := 6) rfl, E_0.out.cell (i := 0) rfl, E_0.out.cell (i := 1) rfl, E_0.out.cell (i := 2) rfl, E_0.out.cell (i := 3) rfl, E_0.out.cell (i := 4) rfl, E_0.out.cell (i := 5) rfl, E_0.out.cell (i := 6) rfl⟩
 have HPW : Hid (∀ W, Below W0.heap.size W0 W → IsPart W (.agg #[.int .i64 p.n, u1, .int .i64 p.st.q, .int .i64 p.st.d, u4, u5, u6]) p) := fun W hb => (HI.out.under HB0.out).under hb
 have hz9 : 0 < W0.heap.size := by omega
 go_region_held3 (fun W => W.cell? ⟨w.heap.size, 0, none⟩ = some (.int .i64 p.n) ∧ W.cell? ⟨w.heap.size, 1, none⟩ = some (u1) ∧ W.cell? ⟨w.heap.size, 2, none⟩ = some (.int .i64 p.st.q) ∧ W.cell? ⟨w.heap.size, 3, none⟩ = some (.int .i64 p.st.d) ∧ W.cell? ⟨w.heap.size, 4, none⟩ = some (u4) ∧ W.cell? ⟨w.heap.size, 5, none⟩ = some (u5) ∧ W.cell? ⟨w.heap.size, 6, none⟩ = some (u6) ∧ W.cell? ⟨w.heap.size + 1, 0, none⟩ = some (.int .i64 e.t) ∧ W.cell? ⟨w.heap.size + 1, 1, none⟩ = some (.int .i64 e.s) ∧ W.cell? ⟨w.heap.size + 1, 2, none⟩ = some (.int .i64 e.q) ∧ W.cell? ⟨w.heap.size + 1, 3, none⟩ = some (.int .i64 e.d) ∧ W.cell? ⟨w.heap.size + 1, 4, none⟩ = some (.int .i64 e.k) ∧ W.cell? ⟨w.heap.size + 1, 5, none⟩ = some (.int .i64 e.v) ∧ W.cell? ⟨w.heap.size + 1, 6, none⟩ = some (.int .i64 e.g)) (first | exact S_4.out | exact S_3.out | exact S_2.out | exact S_1.out | exact S_0.out)
  (first | (go_at_call 63; have h9 := Y_3; refine (tagThere_is y p.all e.g (knowsB p e.g) knowsB_iff _ hall (by have := B_3.out.size; omega) Y_3.out).mono ?_; rintro r w4 ⟨rfl, hb4⟩; have B_4 : Hid (Below W0.heap.size W0 w4) := B_3.out.trans (hb4.mono B_3.out.size); have X_4 : Hid (Bk w4 w.heap.size 33 #[.int .i64 p.n, u1, .int .i64 p.st.q, .int .i64 p.st.d, u4, u5, u6]) := X_3.out.below hb4; have E_4 : Hid (Bk w4 (w.heap.size + 1) 55 #[.int .i64 e.t, .int .i64 e.s, .int .i64 e.q, .int .i64 e.d, .int .i64 e.k, .int .i64 e.v, .int .i64 e.g]) := E_3.out.below hb4; have S_4 : Hid (w4.cell? ⟨w.heap.size, 0, none⟩ = some (.int .i64 p.n) ∧ w4.cell? ⟨w.heap.size, 1, none⟩ = some (u1) ∧ w4.cell? ⟨w.heap.size, 2, none⟩ = some (.int .i64 p.st.q) ∧ w4.cell? ⟨w.heap.size, 3, none⟩ = some (.int .i64 p.st.d) ∧ w4.cell? ⟨w.heap.size, 4, none⟩ = some (u4) ∧ w4.cell? ⟨w.heap.size, 5, none⟩ = some (u5) ∧ w4.cell? ⟨w.heap.size, 6, none⟩ = some (u6) ∧ w4.cell? ⟨w.heap.size + 1, 0, none⟩ = some (.int .i64 e.t) ∧ w4.cell? ⟨w.heap.size + 1, 1, none⟩ = some (.int .i64 e.s) ∧ w4.cell? ⟨w.heap.size + 1, 2, none⟩ = some (.int .i64 e.q) ∧ w4.cell? ⟨w.heap.size + 1, 3, none⟩ = some (.int .i64 e.d) ∧ w4.cell? ⟨w.heap.size + 1, 4, none⟩ = some (.int .i64 e.k) ∧ w4.cell? ⟨w.heap.size + 1, 5, none⟩ = some (.int .i64 e.v) ∧ w4.cell? ⟨w.heap.size + 1, 6, none⟩ = some (.int .i64 e.g)) := ⟨X_4.out.cell (i := 0) rfl, X_4.out.cell (i := 1) rfl, X_4.out.cell (i := 2) rfl, X_4.out.cell (i := 3) rfl, X_4.out.cell (i := 4) rfl, X_4.out.cell (i := 5) rfl, X_4.out.cell (i := 6) rfl, E_4.out.cell (i := 0) rfl, E_4.out.cell (i := 1) rfl, E_4.out.cell (i := 2) rfl, E_4.out.cell (i := 3) rfl, E_4.out.cell (i := 4) rfl, E_4.out.cell (i := 5) rfl, E_4.out.cell (i := 6) rfl⟩; clear hb4) | (go_at_call 64; refine (iDoings _ p _ HWT.out (HPW.out _ B_2.out)).mono ?_; rintro r w3 ⟨y, rfl, ho, hb3⟩; have B_3 : Hid (Below W0.heap.size W0 w3) := B_2.out.trans (hb3.mono B_2.out.size); have X_3 : Hid (Bk w3 w.heap.size 33 #[.int .i64 p.n, u1, .int .i64 p.st.q, .int .i64 p.st.d, u4, u5, u6]) := X_2.out.below hb3; have E_3 : Hid (Bk w3 (w.heap.size + 1) 55 #[.int .i64 e.t, .int .i64 e.s, .int .i64 e.q, .int .i64 e.d, .int .i64 e.k, .int .i64 e.v, .int .i64 e.g]) := E_2.out.below hb3; have S_3 : Hid (w3.cell? ⟨w.heap.size, 0, none⟩ = some (.int .i64 p.n) ∧ w3.cell? ⟨w.heap.size, 1, none⟩ = some (u1) ∧ w3.cell? ⟨w.heap.size, 2, none⟩ = some (.int .i64 p.st.q) ∧ w3.cell? ⟨w.heap.size, 3, none⟩ = some (.int .i64 p.st.d) ∧ w3.cell? ⟨w.heap.size, 4, none⟩ = some (u4) ∧ w3.cell? ⟨w.heap.size, 5, none⟩ = some (u5) ∧ w3.cell? ⟨w.heap.size, 6, none⟩ = some (u6) ∧ w3.cell? ⟨w.heap.size + 1, 0, none⟩ = some (.int .i64 e.t) ∧ w3.cell? ⟨w.heap.size + 1, 1, none⟩ = some (.int .i64 e.s) ∧ w3.cell? ⟨w.heap.size + 1, 2, none⟩ = some (.int .i64 e.q) ∧ w3.cell? ⟨w.heap.size + 1, 3, none⟩ = some (.int .i64 e.d) ∧ w3.cell? ⟨w.heap.size + 1, 4, none⟩ = some (.int .i64 e.k) ∧ w3.cell? ⟨w.heap.size + 1, 5, none⟩ = some (.int .i64 e.v) ∧ w3.cell? ⟨w.heap.size + 1, 6, none⟩ = some (.int .i64 e.g)) := ⟨X_3.out.cell (i := 0) rfl, X_3.out.cell (i := 1) rfl, X_3.out.cell (i := 2) rfl, X_3.out.cell (i := 3) rfl, X_3.out.cell (i := 4) rfl, X_3.out.cell (i := 5) rfl, X_3.out.cell (i := 6) rfl, E_3.out.cell (i := 0) rfl, E_3.out.cell (i := 1) rfl, E_3.out.cell (i := 2) rfl, E_3.out.cell (i := 3) rfl, E_3.out.cell (i := 4) rfl, E_3.out.cell (i := 5) rfl, E_3.out.cell (i := 6) rfl⟩; have Y_3 : Hid (IsEvs w3 y p.all) := ho.evs; clear ho hb3) | (go_at_call 62; refine (iOk_ev e true HEV.out _).mono ?_; rintro r w2 ⟨rfl, hb2⟩; have B_2 : Hid (Below W0.heap.size W0 w2) := B_1.out.trans (hb2.mono B_1.out.size); have X_2 : Hid (Bk w2 w.heap.size 33 #[.int .i64 p.n, u1, .int .i64 p.st.q, .int .i64 p.st.d, u4, u5, u6]) := X_1.out.below hb2; have E_2 : Hid (Bk w2 (w.heap.size + 1) 55 #[.int .i64 e.t, .int .i64 e.s, .int .i64 e.q, .int .i64 e.d, .int .i64 e.k, .int .i64 e.v, .int .i64 e.g]) := E_1.out.below hb2; have S_2 : Hid (w2.cell? ⟨w.heap.size, 0, none⟩ = some (.int .i64 p.n) ∧ w2.cell? ⟨w.heap.size, 1, none⟩ = some (u1) ∧ w2.cell? ⟨w.heap.size, 2, none⟩ = some (.int .i64 p.st.q) ∧ w2.cell? ⟨w.heap.size, 3, none⟩ = some (.int .i64 p.st.d) ∧ w2.cell? ⟨w.heap.size, 4, none⟩ = some (u4) ∧ w2.cell? ⟨w.heap.size, 5, none⟩ = some (u5) ∧ w2.cell? ⟨w.heap.size, 6, none⟩ = some (u6) ∧ w2.cell? ⟨w.heap.size + 1, 0, none⟩ = some (.int .i64 e.t) ∧ w2.cell? ⟨w.heap.size + 1, 1, none⟩ = some (.int .i64 e.s) ∧ w2.cell? ⟨w.heap.size + 1, 2, none⟩ = some (.int .i64 e.q) ∧ w2.cell? ⟨w.heap.size + 1, 3, none⟩ = some (.int .i64 e.d) ∧ w2.cell? ⟨w.heap.size + 1, 4, none⟩ = some (.int .i64 e.k) ∧ w2.cell? ⟨w.heap.size + 1, 5, none⟩ = some (.int .i64 e.v) ∧ w2.cell? ⟨w.heap.size + 1, 6, none⟩ = some (.int .i64 e.g)) := ⟨X_2.out.cell (i := 0) rfl, X_2.out.cell (i := 1) rfl, X_2.out.cell (i := 2) rfl, X_2.out.cell (i := 3) rfl, X_2.out.cell (i := 4) rfl, X_2.out.cell (i := 5) rfl, X_2.out.cell (i := 6) rfl, E_2.out.cell (i := 0) rfl, E_2.out.cell (i := 1) rfl, E_2.out.cell (i := 2) rfl, E_2.out.cell (i := 3) rfl, E_2.out.cell (i := 4) rfl, E_2.out.cell (i := 5) rfl, E_2.out.cell (i := 6) rfl⟩; clear hb2) | (go_at_call 61; refine (iPartOk_fix _ p true HOK.out _ HWT.out (HPW.out _ B_0.out)).mono ?_; rintro r w1 ⟨rfl, hb1⟩; have B_1 : Hid (Below W0.heap.size W0 w1) := B_0.out.trans (hb1.mono B_0.out.size); have X_1 : Hid (Bk w1 w.heap.size 33 #[.int .i64 p.n, u1, .int .i64 p.st.q, .int .i64 p.st.d, u4, u5, u6]) := X_0.out.below hb1; have E_1 : Hid (Bk w1 (w.heap.size + 1) 55 #[.int .i64 e.t, .int .i64 e.s, .int .i64 e.q, .int .i64 e.d, .int .i64 e.k, .int .i64 e.v, .int .i64 e.g]) := E_0.out.below hb1; have S_1 : Hid (w1.cell? ⟨w.heap.size, 0, none⟩ = some (.int .i64 p.n) ∧ w1.cell? ⟨w.heap.size, 1, none⟩ = some (u1) ∧ w1.cell? ⟨w.heap.size, 2, none⟩ = some (.int .i64 p.st.q) ∧ w1.cell? ⟨w.heap.size, 3, none⟩ = some (.int .i64 p.st.d) ∧ w1.cell? ⟨w.heap.size, 4, none⟩ = some (u4) ∧ w1.cell? ⟨w.heap.size, 5, none⟩ = some (u5) ∧ w1.cell? ⟨w.heap.size, 6, none⟩ = some (u6) ∧ w1.cell? ⟨w.heap.size + 1, 0, none⟩ = some (.int .i64 e.t) ∧ w1.cell? ⟨w.heap.size + 1, 1, none⟩ = some (.int .i64 e.s) ∧ w1.cell? ⟨w.heap.size + 1, 2, none⟩ = some (.int .i64 e.q) ∧ w1.cell? ⟨w.heap.size + 1, 3, none⟩ = some (.int .i64 e.d) ∧ w1.cell? ⟨w.heap.size + 1, 4, none⟩ = some (.int .i64 e.k) ∧ w1.cell? ⟨w.heap.size + 1, 5, none⟩ = some (.int .i64 e.v) ∧ w1.cell? ⟨w.heap.size + 1, 6, none⟩ = some (.int .i64 e.g)) := ⟨X_1.out.cell (i := 0) rfl, X_1.out.cell (i := 1) rfl, X_1.out.cell (i := 2) rfl, X_1.out.cell (i := 3) rfl, X_1.out.cell (i := 4) rfl, X_1.out.cell (i := 5) rfl, X_1.out.cell (i := 6) rfl, E_1.out.cell (i := 0) rfl, E_1.out.cell (i := 1) rfl, E_1.out.cell (i := 2) rfl, E_1.out.cell (i := 3) rfl, E_1.out.cell (i := 4) rfl, E_1.out.cell (i := 5) rfl, E_1.out.cell (i := 6) rfl⟩; clear hb1))
 have HB2 := hidHIh (HB0.out.trans (B_4.out.mono HB0.out.size))
 have Z2 := hidHIh (BZ.out.below B_4.out)
 have hs2 : W0.heap.size ≤ w4.heap.size := B_4.out.size
 have X2 := hidHIh X_4.out
 have E2 := hidHIh E_4.out
 clear B_0 B_1 B_2 B_3 B_4 X_0 X_1 X_2 X_3 X_4 E_0 E_1 E_2 E_3 E_4 S_0 S_1 S_2 S_3 S_4 Y_3 BX BE BZ HPW
 cases hkn : knowsB p e.g
 case true =>
  have HNO : Hid (¬ hearOk p e = true) := fun h => by have h1 := (hearOk_iff.1 h).2.2.2; rw [hkn] at h1; cases h1
  have ZN := Z2
  have BN := HB2
  clear hkn
  have z0 := ZN.out.cell (i := 0) rfl
  have z1 := ZN.out.cell (i := 1) rfl
  have z2 := ZN.out.cell (i := 2) rfl
  have z3 := ZN.out.cell (i := 3) rfl
  have z4 := ZN.out.cell (i := 4) rfl
  have z5 := ZN.out.cell (i := 5) rfl
  have z6 := ZN.out.cell (i := 6) rfl
  have zf := ZN.out.free
  obtain ⟨X5, hX5⟩ : ∃ X5, put7s w4 (w.heap.size + 1 + 1) (.int .i64 0) (.slice none 0 0) (.int .i64 0) (.int .i64 0) (.slice none 0 0) (.slice none 0 0) (.slice none 0 0) = X5 := ⟨_, rfl⟩
  have hP := ZN.out.put7s (.int .i64 0) (.slice none 0 0) (.int .i64 0) (.int .i64 0) (.slice none 0 0) (.slice none 0 0) (.slice none 0 0)
  have ht := put7s_turns w4 (w.heap.size + 1 + 1) (.int .i64 0) (.slice none 0 0) (.int .i64 0) (.int .i64 0) (.slice none 0 0) (.slice none 0 0) (.slice none 0 0)
  rw [hX5] at hP ht
  unfold put7s at hX5
  have HX5 : Hid _ := hX5
  have HP5 := hidHIh hP
  have HT5 := hidHIh ht
  clear hX5 hP ht
  go_wp2
  try rw [HX5.out]
  have t0 := HP5.out.cell (i := 0) rfl
  have t1 := HP5.out.cell (i := 1) rfl
  have t2 := HP5.out.cell (i := 2) rfl
  have t3 := HP5.out.cell (i := 3) rfl
  have t4 := HP5.out.cell (i := 4) rfl
  have t5 := HP5.out.cell (i := 5) rfl
  have t6 := HP5.out.cell (i := 6) rfl
  refine bodyPost_ret (v := .tuple #[.agg #[.int .i64 0, .slice none 0 0, .int .i64 0, .int .i64 0, .slice none 0 0, .slice none 0 0, .slice none 0 0], .slice none 0 0, .bool false]) (by simp [results, Tryz.results20, go_sem, t0, t1, t2, t3, t4, t5, t6]) rfl ?_
  have hA := hear_not (p := p) (e := e) (HNO.out)
  rw [hA.1, hA.2.1, hA.2.2]
  exact ⟨_, _, rfl, BN.out.trans (HT5.out.to_below (fun b e => by omega) BN.out.size), fun _ => False, fun _ => False, none_partF _ _, nilE _, fun _ h => h.elim, fun _ h => h.elim⟩
 have HYES : Hid (hearOk p e = true) := hearOk_iff.2 ⟨HOK.out, HEV.out, HDN.out, hkn⟩
 have HKN : Hid (∀ j, j < p.all.length → (evAt p.all j).g ≠ e.g) := fun j hj h1 => by have h2 := knowsB_iff.2 ⟨j, hj, h1⟩; rw [hkn] at h2; cases h2
 clear hkn hdb
 have x0 := X2.out.cell (i := 0) rfl
 have x1 := X2.out.cell (i := 1) rfl
 have x2 := X2.out.cell (i := 2) rfl
 have x3 := X2.out.cell (i := 3) rfl
 have x4 := X2.out.cell (i := 4) rfl
 have x5 := X2.out.cell (i := 5) rfl
 have x6 := X2.out.cell (i := 6) rfl
 go_wp2_with fail
 clear x0 x1 x2 x3 x4 x5 x6
 refine (doerOf_any _ p _ HWT.out (HI.out.under HB2.out)).mono ?_
 rintro r w5 ⟨D, vr, vp, vt, va, A1, A4, rfl, hd, hb⟩
 have hs3 : w4.heap.size ≤ w5.heap.size := hb.size
 have HB23 := hidHIh hb
 have E3 := hidHIh (E2.out.below hb)
 have HD3 := hidHIh hd
 clear hb hd
 have e0 := E3.out.cell (i := 0) rfl
 have e1 := E3.out.cell (i := 1) rfl
 have e2 := E3.out.cell (i := 2) rfl
 have e3 := E3.out.cell (i := 3) rfl
 have e4 := E3.out.cell (i := 4) rfl
 have e5 := E3.out.cell (i := 5) rfl
 have e6 := E3.out.cell (i := 6) rfl
 go_wp2_with fail
 clear e0 e1 e2 e3 e4 e5 e6
 refine (hear_any w4.heap.size D p e vr vp vt va A1 A4 w5 HWT.out HG.out HEV.out HKN.out hs3 HD3.out).mono ?_
 rintro r w6 ⟨⟨ub, rfl⟩, ⟨vr', vp', vt', va', vu', A1', A4', hd⟩, hb⟩
 have h24 : Below w4.heap.size w4 w6 := HB23.out.trans hb
 have HB4 := hidHIh (HB2.out.trans (h24.mono HB2.out.size))
 have hs4 : w4.heap.size ≤ w6.heap.size := h24.size
 have Z4 := hidHIh (Z2.out.below h24)
 have X4 := hidHIh (X2.out.below h24)
 have HD4 := hidHIh hd
 have HAW : Hid ((hearQ p e).wt ≤ 1048576) := Nat.le_trans (hearQ_wt HG.out) (by omega)
 have HLOW : Hid (∀ k, vt'.ownBlock = some k → w.heap.size + 1 + 1 + 1 ≤ k ∧ w4.heap.size ≤ k) := fun k hk => by (have := (World.ownsRow.lt hd.cp.todo k hk).1; omega)
 clear hb hd h24 X2 E2 Z2 E3 HD3
 have x0 := X4.out.cell (i := 0) rfl
 have x1 := X4.out.cell (i := 1) rfl
 have x2 := X4.out.cell (i := 2) rfl
 have x3 := X4.out.cell (i := 3) rfl
 have x4 := X4.out.cell (i := 4) rfl
 have x5 := X4.out.cell (i := 5) rfl
 have x6 := X4.out.cell (i := 6) rfl
 go_wp2_with fail
 clear x0 x1 x2 x3 x4 x5 x6
 refine (outcome_any w4.heap.size D vr' vp' vt' va' vu' A1' A4' (hearQ p e) p (hearU p e) _ w6 HAW.out HWT.out hs4 HD4.out (fun w' ht => HI.out.under (HB4.out.trans (ht.to_below (fun k hk => by have := HLOW.out k hk; omega) HB4.out.size)))).mono ?_
 rintro r w7 ⟨y1, y2, rfl, ht, F1, F2, hF, hO, hd1, hd2⟩
 obtain ⟨A, hA0⟩ : ∃ A, outA (hearQ p e) p = A := ⟨_, rfl⟩
 obtain ⟨L, hL0⟩ : ∃ L, outB (hearQ p e) (hearU p e) = L := ⟨_, rfl⟩
 obtain ⟨bq, hb0⟩ : ∃ b, (hearQ p e).ok = b := ⟨_, rfl⟩
 have HAL : Hid (outA (hearQ p e) p = A ∧ outB (hearQ p e) (hearU p e) = L ∧ (hearQ p e).ok = bq) := ⟨hA0, hL0, hb0⟩
 rw [hA0] at hF
 rw [hL0] at hO
 rw [hb0]
 clear hA0 hL0 hb0
 have HB5 := hidHIh (HB4.out.trans (ht.to_below (fun k hk => by (have := HLOW.out k hk; omega)) HB4.out.size))
 have hs5 : w6.heap.size ≤ w7.heap.size := ht.size
 have Z5 := hidHIh (Z4.out.turns ht (fun e1 => by (have := HLOW.out _ e1; omega)))
 have HF5 : Hid (PartF F1 w7 y1 A) := hF
 have HO5 := hidHIh hO
 have HDF : Hid ((∀ k, F1 k → (w4.heap.size ≤ k ∧ k < w7.heap.size) ∧ ¬ F2 k) ∧ (∀ k, F2 k → w4.heap.size ≤ k ∧ k < w7.heap.size)) := ⟨hd1, hd2⟩
 obtain ⟨r1, s1, r4, s4, r5, s5, r6, s6, rfl⟩ := PartF.form hF
 obtain ⟨a2, c2, rfl, _⟩ := OwnD.parts (c := 7) (n := L.length) hO
 clear ht hF hO hd1 hd2 Z4 X4 HD4
 have z0 := Z5.out.cell (i := 0) rfl
 have z1 := Z5.out.cell (i := 1) rfl
 have z2 := Z5.out.cell (i := 2) rfl
 have z3 := Z5.out.cell (i := 3) rfl
 have z4 := Z5.out.cell (i := 4) rfl
 have z5 := Z5.out.cell (i := 5) rfl
 have z6 := Z5.out.cell (i := 6) rfl
 have zf := Z5.out.free
 obtain ⟨X5, hX5⟩ : ∃ X5, put7s w7 (w.heap.size + 1 + 1) (.int .i64 A.n) (.slice r1 A.st.r.length s1) (.int .i64 A.st.q) (.int .i64 A.st.d) (.slice r4 A.p.length s4) (.slice r5 A.t.length s5) (.slice r6 A.a.length s6) = X5 := ⟨_, rfl⟩
 have hP := Z5.out.put7s (.int .i64 A.n) (.slice r1 A.st.r.length s1) (.int .i64 A.st.q) (.int .i64 A.st.d) (.slice r4 A.p.length s4) (.slice r5 A.t.length s5) (.slice r6 A.a.length s6)
 have ht := put7s_turns w7 (w.heap.size + 1 + 1) (.int .i64 A.n) (.slice r1 A.st.r.length s1) (.int .i64 A.st.q) (.int .i64 A.st.d) (.slice r4 A.p.length s4) (.slice r5 A.t.length s5) (.slice r6 A.a.length s6)
 rw [hX5] at hP ht
 unfold put7s at hX5
 have HX5 : Hid _ := hX5
 have HP5 := hidHIh hP
 have HT5 := hidHIh ht
 clear hX5 hP ht
 go_wp2
 try rw [HX5.out]
 have t0 := HP5.out.cell (i := 0) rfl
 have t1 := HP5.out.cell (i := 1) rfl
 have t2 := HP5.out.cell (i := 2) rfl
 have t3 := HP5.out.cell (i := 3) rfl
 have t4 := HP5.out.cell (i := 4) rfl
 have t5 := HP5.out.cell (i := 5) rfl
 have t6 := HP5.out.cell (i := 6) rfl
 refine bodyPost_ret (v := .tuple #[.agg #[.int .i64 A.n, .slice r1 A.st.r.length s1, .int .i64 A.st.q, .int .i64 A.st.d, .slice r4 A.p.length s4, .slice r5 A.t.length s5, .slice r6 A.a.length s6], .slice a2 L.length c2, .bool bq]) (by simp [results, Tryz.results20, go_sem, t0, t1, t2, t3, t4, t5, t6]) rfl ?_
 obtain ⟨q1, q2, q3⟩ := hear_yes HYES.out
 rw [q1, q2, q3, HAL.out.1, HAL.out.2.1, HAL.out.2.2]
 have hsx := HT5.out.size
 exact ⟨_, _, rfl, HB5.out.trans (HT5.out.to_below (fun b e => by omega) HB5.out.size), F1, F2, HF5.out.turns HT5.out (fun b hb e => by have := HDF.out.1 b hb; omega), HO5.out.turns HT5.out (fun b hb e => by have := HDF.out.2 b hb; omega), fun b hb => ⟨by have := HDF.out.1 b hb; omega, (HDF.out.1 b hb).2⟩, fun b hb => by have := HDF.out.2 b hb; omega⟩
end Go.Proofs.YtnccenbkpocjgaaGreat

