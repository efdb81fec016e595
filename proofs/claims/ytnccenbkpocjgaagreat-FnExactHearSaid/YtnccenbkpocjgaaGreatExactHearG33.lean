/- HPu, SlCi, SlDi, SlIi -/
import Derived.Test.YtnccenbkpocjgaaGreatExactHearG31
import Derived.Test.YtnccenbkpocjgaaGreatExactHearG32
import Derived.Lib.SliceRun
/- What becomes of a part that hears of an event: in plain words. -/
namespace Go.Proofs.YtnccenbkpocjgaaGreat
open Go.RowKit
theorem ecmp_of2 {a b : Ev} (ha : a.ok = true) (hb : b.ok = true) : a.ecmp b = a.cmp b := by
 unfold Ev.ecmp Ev.cmp ecmp
 rw [if_pos ⟨ha, hb⟩]
theorem num_neg2 (a b : Int) : num a b = - num b a := by
 unfold num
 split <;> split <;> (try split) <;> omega
theorem cmp_opp2 (a b : Ev) : a.cmp b = - b.cmp a := by
 unfold Ev.cmp cmpI
 rw [num_neg2 a.t b.t, num_neg2 a.s b.s, num_neg2 a.q b.q, num_neg2 a.g b.g]
 by_cases h1 : a.t = b.t
 ·by_cases h2 : a.s = b.s
  ·by_cases h3 : a.q = b.q
   ·simp [h1, h2, h3]
   ·have h3' : ¬ b.q = a.q := fun e => h3 e.symm
    simp [h1, h2, h3, h3']
  ·have h2' : ¬ b.s = a.s := fun e => h2 e.symm
   simp [h1, h2, h2']
 ·have h1' : ¬ b.t = a.t := fun e => h1 e.symm
  simp [h1, h1']
def AntiAt (a : List Int) (g : Int) (i : Nat) : Prop := i < a.length ∧ intAt a i = g
noncomputable def antiO (a : List Int) (g : Int) : Option Nat := @dite _ (∃ i, AntiAt a g i) (Classical.propDecidable _) (fun h => some h.choose) (fun _ => none)
theorem asc_lt {l : List Int} (h : Asc l) : ∀ (d i : Nat), i + d + 1 < l.length → intAt l i < intAt l (i + d + 1)
 | 0, i, hi => by
  have := (h (i + 1) (by omega)).2.2 (by omega)
  simpa using this
 | d + 1, i, hi => by
  have h1 := asc_lt h d i (by omega)
  have h2 := (h (i + (d + 1) + 1) hi).2.2 (by omega)
  rw [show i + (d + 1) + 1 - 1 = i + d + 1 by omega] at h2
  omega
theorem AntiAt.uniq {a : List Int} (h : Asc a) {g : Int} {i j : Nat} (hi : AntiAt a g i) (hj : AntiAt a g j) : i = j := by
 rcases Nat.lt_trichotomy i j with hl | hl | hl
 ·have := asc_lt h (j - i - 1) i (by have := hj.1; omega)
  rw [show i + (j - i - 1) + 1 = j by omega, hi.2, hj.2] at this
  omega
 ·exact hl
 ·have := asc_lt h (i - j - 1) j (by have := hi.1; omega)
  rw [show j + (i - j - 1) + 1 = i by omega, hi.2, hj.2] at this
  omega
theorem antiO_some {a : List Int} (h : Asc a) {g : Int} {i : Nat} (hi : AntiAt a g i) : antiO a g = some i := by
 unfold antiO
 have hx : ∃ i, AntiAt a g i := ⟨i, hi⟩
 rw [dif_pos hx, AntiAt.uniq h hx.choose_spec hi]
theorem antiO_none {a : List Int} {g : Int} (h : ∀ i, i < a.length → intAt a i ≠ g) : antiO a g = none := by
 unfold antiO
 rw [dif_neg (fun ⟨i, hi⟩ => h i hi.1 hi.2)]
theorem FoundZ.anti {l : List Int} {z : Int} {i : Nat} {f : Bool} (h : FoundZ l z i f) (ha : Asc l) : antiO l z = if f then some i else none := by
 cases hf : f
 ·rw [if_neg (by simp)]
  refine antiO_none fun j hj e => ?_
  rw [hf] at h
  have hn : ¬ (i < l.length ∧ intAt l i = z) := fun q => by have := h.fd.2 q; cases this
  by_cases hji : j < i
  ·have h1 := (h.lo).resolve_left (by omega)
   by_cases e2 : j = i - 1
   ·subst e2; omega
   ·have := asc_lt ha (i - 1 - j - 1) j (by have := h.le; omega)
    rw [show j + (i - 1 - j - 1) + 1 = i - 1 by omega] at this
    omega
  ·have h2 := h.hi (by omega)
   by_cases e2 : j = i
   ·subst e2; exact hn ⟨hj, e⟩
   ·have := asc_lt ha (j - i - 1) i (by omega)
    rw [show i + (j - i - 1) + 1 = j by omega] at this
    omega
 ·rw [if_pos rfl]
  exact antiO_some ha (h.fd.1 hf)
def insP (l : List Ev) (e : Ev) : Nat := (l.takeWhile fun q => decide (q.cmp e < 0)).length
theorem insP_at : ∀ (l : List Ev) (e : Ev), InsAt l e (insP l e)
 | [], e => ⟨by simp [insP], fun j hj => by simp [insP] at hj, fun h => by simp [insP] at h⟩
 | q :: l, e => by
  by_cases h : q.cmp e < 0
  ·have e1 : insP (q :: l) e = insP l e + 1 := by simp [insP, h]
   obtain ⟨h1, h2, h3⟩ := insP_at l e
   rw [e1]
   refine ⟨by simpa using h1, fun j hj => ?_, fun hlt => ?_⟩
   ·cases j with
    | zero => simpa [evAt] using h
    | succ j => simpa [evAt] using h2 j (by omega)
   ·have := h3 (by simpa using hlt)
    simpa [evAt] using this
  ·have e1 : insP (q :: l) e = 0 := by simp [insP, h]
   rw [e1]
   exact ⟨Nat.zero_le _, fun j hj => by omega, fun _ => by simpa [evAt] using h⟩
theorem InsAt.uniq {l : List Ev} {e : Ev} {i j : Nat} (hi : InsAt l e i) (hj : InsAt l e j) : i = j := by
 rcases Nat.lt_trichotomy i j with hl | hl | hl
 ·exact absurd (hj.2.1 i hl) (hi.2.2 (by have := hj.1; omega))
 ·exact hl
 ·exact absurd (hi.2.1 j hl) (hj.2.2 (by have := hi.1; omega))
theorem InsAt.is {l : List Ev} {e : Ev} {i : Nat} (h : InsAt l e i) : i = insP l e := h.uniq (insP_at l e)
def Pa.dropA (p : Pa) (i : Nat) : Pa := ⟨p.n, p.st, p.p, p.t, p.a.take i ++ p.a.drop (i + 1)⟩
def Pa.ins (p : Pa) (e : Ev) : Pa := ⟨p.n, p.st, p.p, p.t.take (insP p.t e) ++ e :: p.t.drop (insP p.t e), p.a⟩
theorem found_ins {l : List Ev} {e : Ev} {i : Nat} (hc : ∀ j, j < l.length - 1 → (evAt l j).cmp (evAt l (j + 1)) < 0) (hok : ∀ j, j < l.length → (evAt l j).ok = true) (he : e.ok = true) (hn : ∀ j, j < l.length → (evAt l j).cmp e ≠ 0) (h : FoundE l.reverse e i) : i = l.length - insP l e := by
 have hle := h.le
 rw [List.length_reverse] at hle
 have hx : InsAt l e (l.length - i) := by
  refine ⟨by omega, fun j hj => ?_, fun hlt => ?_⟩
  ·-- the one at l.length - i - 1 is not behind e
   have h1 := h.hi (by rw [List.length_reverse]; omega)
   rw [evAt_rev l (by omega), ecmp_of2 he (hok _ (by omega))] at h1
   have h2 : (evAt l (l.length - 1 - i)).cmp e < 0 := by
    have h3 := hn (l.length - 1 - i) (by omega)
    have h5 := cmp_opp2 (evAt l (l.length - 1 - i)) e
    omega
   by_cases e2 : j = l.length - 1 - i
   ·rw [e2]; exact h2
   ·have h4 := chain_lt hc (l.length - 1 - i - j - 1) j (by omega)
    rw [show j + (l.length - 1 - i - j - 1) + 1 = l.length - 1 - i by omega] at h4
    exact cmp_trans h4 h2
  ·have h1 := (h.lo).resolve_left (by omega)
   rw [evAt_rev l (by omega), ecmp_of2 he (hok _ (by omega))] at h1
   rw [show l.length - 1 - (i - 1) = l.length - i by omega] at h1
   have h5 := cmp_opp2 (evAt l (l.length - i)) e
   omega
 have := hx.is
 omega
theorem ins_rev {l : List Ev} {e : Ev} : (l.take (insP l e) ++ e :: l.drop (insP l e)).reverse = l.reverse.take (l.length - insP l e) ++ e :: l.reverse.drop (l.length - insP l e) := by
 have hle := (insP_at l e).1
 generalize insP l e = k at hle
 rw [List.reverse_append, List.reverse_cons, List.append_assoc, List.singleton_append, List.reverse_take, List.reverse_drop]
end Go.Proofs.YtnccenbkpocjgaaGreat

/- Slices that are cut. -/
namespace Go.Proofs.YtnccenbkpocjgaaGreat
open Go.RowKit
theorem infoSli : (Tryz.prog.info? 3).map (fun i => (i.zero, i.size, i.bytes)) = some (some (.int .i64 0), 1, 8) := by kernel_rfl
theorem cutLi (a : Option Addr) (n cap k : Nat) (hk : k ≤ n) (w : World) : (Instr.sliceAt 22 (.slice a n cap) (some (.int .i64 (k : Int))) none none).run Tryz.prog w = .ok (sliced a k n cap 1) w := by
 obtain ⟨i0, hi, hz0, hz1, hz2⟩ := info_parts infoSli
 have hu : Tryz.prog.underlying 22 = some (.slice (Tryz.prog.elem 22)) := by kernel_rfl
 have he : Tryz.prog.elem 22 = 3 := by kernel_rfl
 rw [run_sliceAt_slice (h := hu), run_slice_l (ht := hu) (h0 := by omega) (h1 := by omega), he]
 simp [sizeOf, typeInfo, hi, hz1]
theorem cutHi (a : Option Addr) (n cap k : Nat) (hk : k ≤ cap) (w : World) : (Instr.sliceAt 22 (.slice a n cap) none (some (.int .i64 (k : Int))) none).run Tryz.prog w = .ok (sliced a 0 k cap 1) w := by
 obtain ⟨i0, hi, hz0, hz1, hz2⟩ := info_parts infoSli
 have hu : Tryz.prog.underlying 22 = some (.slice (Tryz.prog.elem 22)) := by kernel_rfl
 have he : Tryz.prog.elem 22 = 3 := by kernel_rfl
 rw [run_sliceAt_slice (h := hu), run_slice_h (ht := hu) (h0 := by omega) (h2 := by omega), he]
 simp [sizeOf, typeInfo, hi, hz1]
theorem cutTi (a : Option Addr) (n cap l h : Nat) (hl : l ≤ h) (hh : h ≤ cap) (w : World) : (Instr.sliceAt 22 (.slice a n cap) (some (.int .i64 (l : Int))) (some (.int .i64 (h : Int))) none).run Tryz.prog w = .ok (sliced a l h cap 1) w := by
 obtain ⟨i0, hi, hz0, hz1, hz2⟩ := info_parts infoSli
 have hu : Tryz.prog.underlying 22 = some (.slice (Tryz.prog.elem 22)) := by kernel_rfl
 have he : Tryz.prog.elem 22 = 3 := by kernel_rfl
 rw [run_sliceAt_slice (h := hu), run_slice_lh (ht := hu) (h0 := by omega) (h1 := by omega) (h2 := by omega), he]
 simp [sizeOf, typeInfo, hi, hz1]
theorem cutMi (a : Option Addr) (n cap l h m : Nat) (hl : l ≤ h) (hh : h ≤ m) (hm : m ≤ cap) (w : World) : (Instr.sliceAt 22 (.slice a n cap) (some (.int .i64 (l : Int))) (some (.int .i64 (h : Int))) (some (.int .i64 (m : Int)))).run Tryz.prog w = .ok (sliced a l h m 1) w := by
 obtain ⟨i0, hi, hz0, hz1, hz2⟩ := info_parts infoSli
 have hu : Tryz.prog.underlying 22 = some (.slice (Tryz.prog.elem 22)) := by kernel_rfl
 have he : Tryz.prog.elem 22 = 3 := by kernel_rfl
 rw [run_sliceAt_slice (h := hu), run_slice_lhm (ht := hu) (h0 := by omega) (h1 := by omega) (h2 := by omega) (h3 := by omega), he]
 simp [sizeOf, typeInfo, hi, hz1]
end Go.Proofs.YtnccenbkpocjgaaGreat

/- slices.Delete, of one: what is behind it moves up. -/
namespace Go.Proofs.YtnccenbkpocjgaaGreat
open Go.RowKit
theorem cleari (w : World) (g o cp : Nat) (cur : Array Value) (hg : w.heap[g]? = some (.cells cur 3 (0, 0))) (hf : o + 1 ≤ cur.size) :
  ∃ cur' : Array Value, (∀ ty, (Builtin.clear_ #[22] ty #[.slice (some ⟨g, o, none⟩) 1 cp]).run Tryz.prog w = .ok (.tuple #[]) (w.setRow g cur')) ∧ cur'.size = cur.size ∧ cur'.toList.take o = cur.toList.take o := by
 refine ⟨_, fun ty => run_clear_one w 22 3 ty (.int .i64 0) Tryz.underlying22 (fun w => by kernel_rfl) g o cp cur [.int .i64 0] (by kernel_rfl) (by intro v hv; simp at hv; subst hv; rfl) hg (by simpa using hf), ?_, ?_⟩
 ·simp only [List.size_toArray, List.length_append, List.length_take, List.length_drop, Array.length_toList, List.length_cons, List.length_nil]; omega
 ·simp only [List.append_assoc]
  rw [List.take_append_of_le_length (by rw [List.length_take, Array.length_toList]; omega), List.take_take, Nat.min_self]
set_option maxRecDepth 100000 in
set_option maxHeartbeats 8000000 in
theorem deli_any (B g k cap i : Nat) (xs : List Value) (w : World) (hi : i < k + 1) (h1 : ∀ v ∈ xs, v.oneCell' = true) (h : w.ownsRow B 3 1 (.slice (some ⟨g, 0, none⟩) (k + 1) cap) (k + 1) xs) :
  Calls Tryz.prog 167 #[.slice (some ⟨g, 0, none⟩) (k + 1) cap, .int .i64 (i : Int), .int .i64 ((i : Int) + 1)] w fun e w' =>
   e = .returned (.slice (some ⟨g, 0, none⟩) k cap) ∧ w'.ownsRow B 3 1 (.slice (some ⟨g, 0, none⟩) k cap) k (xs.take (i * 1) ++ xs.drop ((i + 1) * 1)) ∧ w.grownBy w' (some g) := by
 obtain ⟨i0, hi0, hz0, hz1, hz2⟩ := info_parts infoSli
 obtain ⟨cur, hg, hBg, hnc, hcm, hcs, htk⟩ := owns_block h
 have hcm2 : cap ≤ 9223372036854775807 := by unfold maxLen at hcm; omega
 have HX : Hid (xs.length = (k + 1) * 1) := h.1
 have s1 := cutMi (some ⟨g, 0, none⟩) (k + 1) cap i (i + 1) (k + 1) (by omega) (by omega) hnc
 have s2 := cutHi (some ⟨g, 0, none⟩) (k + 1) cap i (by omega)
 have s3 := cutLi (some ⟨g, 0, none⟩) (k + 1) cap (i + 1) (by omega)
 have s4 := cutTi (some ⟨g, 0, none⟩) k cap k (k + 1) (by omega) hnc
 have ci : (((i + 1 : Nat)) : Int) = (i : Int) + 1 := by omega
 have ck : (((k + 1 : Nat)) : Int) = (k : Int) + 1 := by omega
 rw [ci, ck] at s1
 rw [ci] at s3
 rw [ck] at s4
 have e2 : sliced (some ⟨g, 0, none⟩) 0 i cap 1 = .slice (some ⟨g, 0, none⟩) i cap := by
  unfold sliced
  rw [if_neg (by omega)]; simp [Addr.add_lit]
 have e4 : sliced (some ⟨g, 0, none⟩) k (k + 1) cap 1 = .slice (some ⟨g, k * 1, none⟩) 1 (cap - k) := by
  unfold sliced
  rw [if_neg (by omega), show k + 1 - k = 1 by omega]; simp [Addr.add_lit]
 obtain ⟨a3, c3, e3, hs3⟩ : ∃ a3 c3, sliced (some ⟨g, 0, none⟩) (i + 1) (k + 1) cap 1 = .slice (some a3) (k + 1 - (i + 1)) c3 ∧ ∀ j u, (xs.drop ((i + 1) * 1))[j]? = some u → w.drew.cell? (a3.add j) = some u := by
  unfold sliced
  by_cases h0 : cap = i + 1
  ·rw [if_pos h0]
   refine ⟨_, _, rfl, fun j u hu => ?_⟩
   rw [List.drop_eq_nil_of_le (by rw [HX.out]; exact Nat.mul_le_mul_right _ (by omega))] at hu
   simp at hu
  ·rw [if_neg h0]
   refine ⟨⟨g, (i + 1) * 1, none⟩, cap - (i + 1), by simp [Addr.add_lit], fun j u hu => ?_⟩
   rw [List.getElem?_drop] at hu
   have hj : (i + 1) * 1 + j < (k + 1) * 1 := by rw [← HX.out]; exact (List.getElem?_eq_some_iff.1 hu).1
   rw [Addr.add_lit]
   exact (World.ownsRow.cellAt h _ hj).trans hu
 rw [e2] at s2
 rw [e3] at s3
 rw [e4] at s4
 obtain ⟨sv, hsv⟩ : ∃ sv, sliced (some ⟨g, 0, none⟩) i (i + 1) (k + 1) 1 = sv := ⟨_, rfl⟩
 rw [hsv] at s1
 obtain ⟨W1, hr1, ho1, hg1⟩ := run_append_fits (P := Tryz.prog) w.drew B 22 22 3 i0 1 Tryz.underlying22 hi0 hz1 g i cap (xs.take (i * 1)) (owns_less (w := w.drew) h (by omega)) a3 (k + 1 - (i + 1)) c3 (xs.drop ((i + 1) * 1)) (by rw [List.length_drop, HX.out]; omega) hs3 (fun v hv => h1 v (List.mem_of_mem_drop hv)) (by omega)
 rw [show i + (k + 1 - (i + 1)) = k by omega] at hr1 ho1
 obtain ⟨cur1, hg2, _, _, _, hcs1, htk1⟩ := owns_block ho1
 have HGR : Hid (w.grownBy W1 (some g)) := ⟨hg1.os, hg1.tape, hg1.output, hg1.size, hg1.block⟩
 have HLIM : Hid (k * 1 + 1 ≤ cur1.size) := by show _ ≤ _; rw [hcs1]; exact (by omega : k * 1 + 1 = (k + 1) * 1) ▸ Nat.mul_le_mul_right _ hnc
 obtain ⟨cur2, hcl2, q1, q2⟩ := cleari W1 g (k * 1) (cap - k) cur1 hg2 HLIM.out
 simp only [Nat.mul_one] at hcl2
 have HO1 : Hid (W1.heap[g]? = some (.cells cur1 3 (0, 0))) := hg2
 have HT1 : Hid (cur1.toList.take (k * 1) = xs.take (i * 1) ++ xs.drop ((i + 1) * 1)) := htk1
 have HS1 : Hid (cur1.size = cap * 1) := hcs1
 have HCM : Hid (cap ≤ maxLen) := hcm
 have HBG : Hid (B ≤ g) := hBg
 have hne : ¬ ((i : Int) = (i : Int) + 1) := by omega
 have hnb : ((i : Int) == (i : Int) + 1) = false := by rw [beq_eq_false_iff_ne]; omega
 have HF : Hid ((W1.setRow g cur2).ownsRow B 3 1 (.slice (some ⟨g, 0, none⟩) k cap) k (xs.take (i * 1) ++ xs.drop ((i + 1) * 1)) ∧ w.grownBy (W1.setRow g cur2) (some g)) :=
  ⟨owns_of_block (setRow_heap W1 g cur1 cur2 3 (0, 0) HO1.out) HBG.out (by omega) HCM.out (q1.trans HS1.out) (q2.trans HT1.out), grownS_row2 HGR.out⟩
 clear h hg hcs htk hcm hBg hg2 hcs1 htk1 hg1 ho1 hs3 e2 e3 e4 hsv HO1 HT1 HS1 HGR HLIM HX ci ck q1 q2
 have mixed : Tryz.prog.follows Departure.mixedOrders = true := by kernel_rfl
 go_enter Tryz.func167, Tryz.ntmps167
 go_wp2
 go_region_law_o (refine step_append_run rfl _ _ 22 22 rfl (.slice (some ⟨g, 0, none⟩) i cap) (.slice (some a3) (k + 1 - (i + 1)) c3) (by simp [Act.eval, Act.put]) (by simp [Act.eval, Act.put]) hr1 ?_)
 go_wp2
 go_ret
 exact ⟨rfl, HF.out⟩
end Go.Proofs.YtnccenbkpocjgaaGreat

/- slices.Insert, of one. -/
namespace Go.Proofs.YtnccenbkpocjgaaGreat
open Go.RowKit
end Go.Proofs.YtnccenbkpocjgaaGreat

