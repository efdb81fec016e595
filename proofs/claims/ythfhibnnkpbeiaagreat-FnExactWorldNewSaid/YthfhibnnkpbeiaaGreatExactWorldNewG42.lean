/- NIp, VFnOk -/
import Derived.Test.YthfhibnnkpbeiaaGreatExactWorldNewG01
import Derived.Test.YthfhibnnkpbeiaaGreatExactWorldNewG41
import Derived.Test.YthfhibnnkpbeiaaGreatExactWorldNewLN4s
import Derived.Test.YthfhibnnkpbeiaaGreatExactWorldNewG33
/- The program's PartNew. -/
namespace Go.Proofs.YthfhibnnkpbeiaaGreat
open Go.RowKit Go.Shelf
theorem hidNIp {p : Prop} (h : p) : Hid p := h
attribute [local go_sem] Oper.semAt_some
theorem SrcC.at {w : World} {g m c size : Nat} {news : List Value} (h : SrcC w (.slice (some ⟨g, 0, none⟩) m c) size m news) (hm : 0 < m) : ∀ j u, news[j]? = some u → w.cell? ((⟨g, 0, none⟩ : Addr).add j) = some u := by
 obtain ⟨hn, a, c', e, h⟩ := h
 cases e
 rcases h with h | ⟨b, off, e, _, hc⟩
 ·omega
 ·cases e
  intro j u hj
  have h1 : j < news.length := (List.getElem?_eq_some_iff.1 hj).1
  rw [← hj, ← hc j (by rw [← hn]; exact h1)]
  rw [Nat.zero_add]
  unfold Addr.add
  split
  next h9 => rw [h9]
  ·rw [Nat.zero_add]
def flN (n : Int) (l : List Ev) (pre : List (Fin l.length)) : List Ev := (pre.map fun x => evAt l x.val).filter (fun e => decide (e.d = n))
theorem flN_all (n : Int) (l : List Ev) : flN n l (List.finRange l.length) = l.filter (fun e => decide (e.d = n)) := by
 unfold flN
 congr 1
 refine List.ext_getElem (by simp) (fun j h1 h2 => ?_)
 simp [evAt]
theorem flN_yes (n : Int) (l : List Ev) (pre : List (Fin l.length)) (x : Fin l.length) (h : (evAt l x.val).d = n) : flN n l (pre ++ [x]) = flN n l pre ++ [evAt l x.val] := by
 unfold flN
 rw [List.map_append, List.filter_append]
 simp [h]
theorem flN_no (n : Int) (l : List Ev) (pre : List (Fin l.length)) (x : Fin l.length) (h : ¬ (evAt l x.val).d = n) : flN n l (pre ++ [x]) = flN n l pre := by
 unfold flN
 rw [List.map_append, List.filter_append]
 simp [h]
theorem flN_len (n : Int) (l : List Ev) (pre : List (Fin l.length)) : (flN n l pre).length ≤ pre.length := by
 unfold flN
 have := List.length_filter_le (fun e : Ev => decide (e.d = n)) (pre.map fun x => evAt l x.val)
 simpa using this
def PnJ (Wc : World) (P : Nat) (n : Int) (va : Value) (q d : Int) (l : List Ev) (pre : List (Fin l.length)) (W : World) : Prop :=
 ∃ vt, Bk W P 70 #[.int .i64 n, va, .int .i64 q, .int .i64 d, .slice none 0 0, vt, .slice none 0 0] ∧ W.ownsRow Wc.heap.size 99 7 vt (flN n l pre).length (cellsL (flN n l pre)) ∧ Turns (fun k => k = P) Wc W
theorem pn_own (Wc : World) (P : Nat) (n : Int) (va : Value) (q d : Int) (l : List Ev) : OwnFrom Wc.heap.size (PnJ Wc P n va q d l) := by
 rintro pre X Y row ⟨vt, h1, h2, h3⟩ hg hr
 have ht : Turns (fun q => row = some q) X Y := ⟨hg.os, hg.tape, hg.output, hg.size, fun q hq hn => hg.block q hq (fun e => hn e.symm)⟩
 refine ⟨vt, h1.turns ht (fun e1 => by obtain ⟨o, ho, hc⟩ := (hr _ e1).2; rw [bk_cells h1 ho] at hc; cases hc), owns_turns h2 ht (fun k hk e1 => by obtain ⟨o, ho, hc⟩ := (hr _ e1).2; rw [row_cells h2 hk ho] at hc; cases hc), ⟨hg.os.trans h3.os, hg.tape.trans h3.tape, hg.output.trans h3.output, Nat.le_trans h3.size hg.size, fun q hq hn => (hg.block q (by have := h3.size; omega) (fun e => by have := (hr q e.symm).1; omega)).trans (h3.block q hq hn)⟩⟩
theorem stateOf_yes {m : Md} {lp : Int} (h : newOk m lp = true) : stateOfR m lp = firstS m lp := by
 have h1 : (m.ok && isPart m lp) = true := h
 unfold stateOfR
 rw [h1]
 rfl
theorem new_partF {w1 W : World} {n : Int} {ay : Option Addr} {cy : Nat} {S : St} {vt : Value} {l : List Ev} {B lo hi : Nat} (hF : RowF (fun k => lo ≤ k ∧ k < w1.heap.size) W (.slice ay S.r.length cy) S.r.length 1 (intCells S.r)) (ho : W.ownsRow B 99 7 vt l.length (cellsL l)) (h1 : w1.heap.size ≤ B) (h2 : hi = W.heap.size) (h3 : lo ≤ w1.heap.size) (h4 : w1.heap.size ≤ hi) :
  PartF (fun k => lo ≤ k ∧ k < hi) W (.agg #[.int .i64 n, .slice ay S.r.length cy, .int .i64 S.q, .int .i64 S.d, .slice none 0 0, vt, .slice none 0 0]) ⟨n, S, [], l, []⟩ :=
 ⟨fun k => lo ≤ k ∧ k < w1.heap.size, fun _ => False, fun k => B ≤ k ∧ k < W.heap.size, fun _ => False, _, _, _, _, rfl, hF.own, .nil _ _ _ _ _ (Nat.zero_le _), (RowF.of_owns (cellsL_length _) ho).own, .nil _ _ _ _ _ (Nat.zero_le _), fun k h => ⟨⟨h.1, by omega⟩, id, fun h9 => by omega, id⟩, fun _ h => h.elim, fun k h => ⟨⟨by omega, by omega⟩, id⟩, fun _ h => h.elim⟩
theorem start_one {m : Md} (h : m.ok = true) : (∀ a b, a ∈ m.e → b ∈ m.e → a.q = b.q → a = b) ∧ ∀ e ∈ m.e, e.ok = true := by
 have hE : m.okE = true := by
  unfold Md.ok at h
  simp only [Bool.and_eq_true] at h
  exact h.2
 unfold Md.okE at hE
 rw [List.all_eq_true] at hE
 have hj : ∀ j, j < m.e.length → (evAt m.e j).ok = true ∧ (evAt m.e j).q = (j : Int) := fun j hj => by
  have := hE j (by simpa using hj)
  unfold stB at this
  simp only [Bool.and_eq_true, decide_eq_true_eq] at this
  exact ⟨this.1, this.2.2.1⟩
 have ha : ∀ {i : Nat} (hi : i < m.e.length), m.e[i] = evAt m.e i := fun hi => by simp [evAt, hi]
 refine ⟨fun a b h1 h2 h3 => ?_, fun e he => ?_⟩
 ·obtain ⟨i, hi, rfl⟩ := List.getElem_of_mem h1
  obtain ⟨k, hk, rfl⟩ := List.getElem_of_mem h2
  rw [ha hi, ha hk, (hj i hi).2, (hj k hk).2] at h3
  have : i = k := by omega
  subst this
  rfl
 ·obtain ⟨i, hi, rfl⟩ := List.getElem_of_mem he
  rw [ha hi]
  exact (hj i hi).1
set_option maxRecDepth 100000 in
set_option maxHeartbeats 16000000 in
theorem iPartNew_no (x : Value) (m : Md) (lp : Int) (w : World) (hs : SmallM m) (h : IsM w x m) (hok : newOk m lp = false) :
  Calls Tryz.prog 35 #[x, .int .i64 lp] w fun r w' => AnsN w w' r (newA m lp) (newOk m lp) := by
 have HM : Hid (IsM w x m) := h
 have HS : Hid (SmallM m) := hs
 have HOK : Hid (newOk m lp = false) := hok
 obtain ⟨vi, vh, vs, rfl, ⟨ai, ci, rfl, _⟩, ⟨ah, ch, rfl, _⟩, ⟨ae, ce, rfl, _, _, he3⟩⟩ := h
 have HE := hidNIp he3
 obtain ⟨S, hS⟩ : ∃ S, stateOfR m lp = S := ⟨_, rfl⟩
 have HSS : Hid (stateOfR m lp = S) := hS
 have HC : Hid (∀ W, IsM W (.agg #[.int .i64 m.n, .int .i64 m.s, .slice ai m.i.length ci, .slice ah m.h.length ch, .slice ae m.e.length ce, .int .i64 m.z]) m → Calls Tryz.prog 79 #[.agg #[.int .i64 m.n, .int .i64 m.s, .slice ai m.i.length ci, .slice ah m.h.length ch, .slice ae m.e.length ce, .int .i64 m.z], .int .i64 lp] W fun e w' => ∃ y, e = .returned (.tuple #[y, .bool false]) ∧ Below W.heap.size W w' ∧ StF (fun k => W.heap.size ≤ k ∧ k < w'.heap.size) w' y S) := fun W hW => by
  have h9 := iStateOf _ m lp W HS.out hW
  have h8 : (m.ok && isPart m lp) = false := hok
  rw [h8, hS] at h9
  exact h9
 clear hs hok he3 hS
 obtain ⟨W0, hW0⟩ : ∃ W0, ((w.alloc (.cells #[.int .i64 m.n, .int .i64 m.s, .slice ai m.i.length ci, .slice ah m.h.length ch, .slice ae m.e.length ce, .int .i64 m.z] 31)).alloc (.cells #[.int .i64 lp] 3)).alloc (.cells #[.int .i64 0, .slice none 0 0, .int .i64 0, .int .i64 0, .slice none 0 0, .slice none 0 0, .slice none 0 0] 70) = W0 := ⟨_, rfl⟩
 have HB0 : Hid (Below w.heap.size w W0) := by rw [← hW0]; exact (((Below.refl _ w).alloc (Nat.le_refl _) _).alloc (by simp) _).alloc (by simp; omega) _
 have BX : Hid (Bk W0 w.heap.size 31 #[.int .i64 m.n, .int .i64 m.s, .slice ai m.i.length ci, .slice ah m.h.length ch, .slice ae m.e.length ce, .int .i64 m.z]) := by rw [← hW0]; exact ((Bk.new w _ _).alloc _).alloc _
 have BL : Hid (Bk W0 (w.heap.size + 1) 3 #[.int .i64 lp]) := by rw [← hW0]; exact (Bk.newAt (by simp) _ _).alloc _
 have BZ : Hid (Bk W0 (w.heap.size + 2) 70 #[.int .i64 0, .slice none 0 0, .int .i64 0, .int .i64 0, .slice none 0 0, .slice none 0 0, .slice none 0 0]) := by rw [← hW0]; exact Bk.newAt (by simp) _ _
 have hz0 : W0.heap.size = w.heap.size + 3 := by rw [← hW0]; simp
 obtain ⟨x0, x1, x2, x3, x4, x5⟩ := c6_6 BX.out
 have l0 := BL.out.cell (i := 0) rfl
 go_enter Tryz.func35, Tryz.ntmps35
 go_wp2_with fail
 clear hW0 x0 x1 x2 x3 x4 x5 l0
 refine (HC.out _ (HM.out.below HB0.out)).mono ?_
 rintro r w1 ⟨y, rfl, hb, hF⟩
 obtain ⟨ay, cy, rfl⟩ := hF.form
 have hs1 : W0.heap.size ≤ w1.heap.size := hb.size
 obtain ⟨V1, hV1⟩ : ∃ V1, w1.alloc (.cells #[.slice ay S.r.length cy, .int .i64 S.q, .int .i64 S.d] 67) = V1 := ⟨_, rfl⟩
 have hb1 : Below w1.heap.size w1 V1 := hV1 ▸ (Below.refl _ w1).alloc (Nat.le_refl _) _
 have HB1 := hidNIp (HB0.out.trans ((hb.mono HB0.out.size).trans (hb1.mono (by omega))))
 have Z1 := hidNIp ((BZ.out.below hb).below hb1)
 have hs2 : w1.heap.size ≤ V1.heap.size := hb1.size
 clear hb hb1 hF
 obtain ⟨z0, z1, z2, z3, z4, z5, z6⟩ := c7_7 Z1.out
 have zf := Z1.out.free
 obtain ⟨X5, hX5⟩ : ∃ X5, put7s V1 (w.heap.size + 2) (.int .i64 0) (.slice none 0 0) (.int .i64 0) (.int .i64 0) (.slice none 0 0) (.slice none 0 0) (.slice none 0 0) = X5 := ⟨_, rfl⟩
 have hP := Z1.out.put7s (.int .i64 0) (.slice none 0 0) (.int .i64 0) (.int .i64 0) (.slice none 0 0) (.slice none 0 0) (.slice none 0 0)
 have ht := put7s_turns V1 (w.heap.size + 2) (.int .i64 0) (.slice none 0 0) (.int .i64 0) (.int .i64 0) (.slice none 0 0) (.slice none 0 0) (.slice none 0 0)
 rw [hX5] at hP ht
 unfold put7s at hX5
 have HX5 : Hid _ := hX5
 have HP5 := hidNIp hP
 have HT5 := hidNIp ht
 clear hX5 hP ht
 go_wp2
 try rw [HX5.out]
 obtain ⟨t0, t1, t2, t3, t4, t5, t6⟩ := c7_7 HP5.out
 refine bodyPost_ret (v := .tuple #[.agg #[.int .i64 0, .slice none 0 0, .int .i64 0, .int .i64 0, .slice none 0 0, .slice none 0 0, .slice none 0 0], .bool false]) (by simp [results, Tryz.results35, go_sem, t0, t1, t2, t3, t4, t5, t6]) rfl ?_
 have hn := new_not HOK.out
 rw [hn.1, hn.2]
 exact ⟨_, rfl, HB1.out.trans (HT5.out.to_below (fun q hq => by omega) HB1.out.size), none_partF _ _⟩
set_option maxRecDepth 100000 in
set_option maxHeartbeats 16000000 in
theorem iPartNew_yes (x : Value) (m : Md) (lp : Int) (w : World) (hs : SmallM m) (h : IsM w x m) (hok : newOk m lp = true) :
  Calls Tryz.prog 35 #[x, .int .i64 lp] w fun r w' => AnsN w w' r (newA m lp) (newOk m lp) := by
 have HM : Hid (IsM w x m) := h
 have HS : Hid (SmallM m) := hs
 have HOK : Hid (newOk m lp = true) := hok
 obtain ⟨vi, vh, vs, rfl, ⟨ai, ci, rfl, _⟩, ⟨ah, ch, rfl, _⟩, ⟨ae, ce, rfl, _, _, he3⟩⟩ := h
 have HE := hidNIp he3
 obtain ⟨S, hS⟩ : ∃ S, stateOfR m lp = S := ⟨_, rfl⟩
 have HSS : Hid (stateOfR m lp = S) := hS
 have HC : Hid (∀ W, IsM W (.agg #[.int .i64 m.n, .int .i64 m.s, .slice ai m.i.length ci, .slice ah m.h.length ch, .slice ae m.e.length ce, .int .i64 m.z]) m → Calls Tryz.prog 79 #[.agg #[.int .i64 m.n, .int .i64 m.s, .slice ai m.i.length ci, .slice ah m.h.length ch, .slice ae m.e.length ce, .int .i64 m.z], .int .i64 lp] W fun e w' => ∃ y, e = .returned (.tuple #[y, .bool true]) ∧ Below W.heap.size W w' ∧ StF (fun k => W.heap.size ≤ k ∧ k < w'.heap.size) w' y S) := fun W hW => by
  have h9 := iStateOf _ m lp W HS.out hW
  have h8 : (m.ok && isPart m lp) = true := hok
  rw [h8, hS] at h9
  exact h9
 clear hs hok he3 hS
 obtain ⟨W0, hW0⟩ : ∃ W0, ((w.alloc (.cells #[.int .i64 m.n, .int .i64 m.s, .slice ai m.i.length ci, .slice ah m.h.length ch, .slice ae m.e.length ce, .int .i64 m.z] 31)).alloc (.cells #[.int .i64 lp] 3)).alloc (.cells #[.int .i64 0, .slice none 0 0, .int .i64 0, .int .i64 0, .slice none 0 0, .slice none 0 0, .slice none 0 0] 70) = W0 := ⟨_, rfl⟩
 have HB0 : Hid (Below w.heap.size w W0) := by rw [← hW0]; exact (((Below.refl _ w).alloc (Nat.le_refl _) _).alloc (by simp) _).alloc (by simp; omega) _
 have BX : Hid (Bk W0 w.heap.size 31 #[.int .i64 m.n, .int .i64 m.s, .slice ai m.i.length ci, .slice ah m.h.length ch, .slice ae m.e.length ce, .int .i64 m.z]) := by rw [← hW0]; exact ((Bk.new w _ _).alloc _).alloc _
 have BL : Hid (Bk W0 (w.heap.size + 1) 3 #[.int .i64 lp]) := by rw [← hW0]; exact (Bk.newAt (by simp) _ _).alloc _
 have BZ : Hid (Bk W0 (w.heap.size + 2) 70 #[.int .i64 0, .slice none 0 0, .int .i64 0, .int .i64 0, .slice none 0 0, .slice none 0 0, .slice none 0 0]) := by rw [← hW0]; exact Bk.newAt (by simp) _ _
 have hz0 : W0.heap.size = w.heap.size + 3 := by rw [← hW0]; simp
 obtain ⟨x0, x1, x2, x3, x4, x5⟩ := c6_6 BX.out
 have l0 := BL.out.cell (i := 0) rfl
 refine (callsIn_wide (n := 5)).1 ?_
 refine callsIn_of_wp_marks Tryz.func35 rfl trivial ?_ rfl
 simp only [Tryz.ntmps35, List.size_toArray, List.length_cons, List.length_nil, Nat.reduceAdd, Nat.reduceSub, Array.replicate_succ, Array.replicate_zero, List.push_toArray, List.append_toArray, List.nil_append, List.cons_append]
 gi_wp2_with fail
 clear hW0 x0 x1 x2 x3 x4 x5 l0
 refine ⟨trivial, ?_⟩
 refine (callsIn_wide.2 (HC.out _ (HM.out.below HB0.out))).mono ?_
 rintro r w1 ⟨y, rfl, hb, hF⟩
 obtain ⟨vy, hy, hF⟩ := hF
 obtain ⟨hF0, ay, cy, rfl, hF1, hF2, hF3⟩ := hF
 subst hy
 have hs1 : W0.heap.size ≤ w1.heap.size := hb.size
 obtain ⟨Wc, hWc⟩ : ∃ Wc, ((w1.alloc (.cells #[.slice ay S.r.length cy, .int .i64 S.q, .int .i64 S.d] 67)).alloc (.cells #[.int .i64 lp, .slice ay S.r.length cy, .int .i64 S.q, .int .i64 S.d, .slice none 0 0, .slice none 0 0, .slice none 0 0] 70)).alloc (.cells #[.slice ae m.e.length ce] 29) = Wc := ⟨_, rfl⟩
 have hbc : Below w1.heap.size w1 Wc := by rw [← hWc]; exact (((Below.refl _ w1).alloc (Nat.le_refl _) _).alloc (by simp) _).alloc (by simp; omega) _
 have hzc : Wc.heap.size = w1.heap.size + 3 := by rw [← hWc]; simp
 have HB1 := hidNIp (HB0.out.trans ((hb.mono HB0.out.size).trans (hbc.mono (by omega))))
 have HRS := hidNIp (RowF.turns (S := fun _ => False) ⟨hF0, ay, cy, rfl, hF1, hF2, hF3⟩ (Turns.of_below hbc) (fun _ _ => id))
 have HP : Hid (Bk Wc (w1.heap.size + 1) 70 #[.int .i64 lp, .slice ay S.r.length cy, .int .i64 S.q, .int .i64 S.d, .slice none 0 0, .slice none 0 0, .slice none 0 0]) := by rw [← hWc]; exact (Bk.newAt (by simp) _ _).alloc _
 have HSL : Hid (Bk Wc (w1.heap.size + 2) 29 #[.slice ae m.e.length ce]) := by rw [← hWc]; exact Bk.newAt (by simp) _ _
 have Z1 := hidNIp ((BZ.out.below hb).below hbc)
 have L1 := hidNIp ((BL.out.below hb).below hbc)
 have HWc := hidNIp hWc
 have X1 := BX.out.below hb
 have x0 := (X1.alloc (.cells #[.slice ay S.r.length cy, .int .i64 S.q, .int .i64 S.d] 67)).alloc (.cells #[.int .i64 lp, .slice ay S.r.length cy, .int .i64 S.q, .int .i64 S.d, .slice none 0 0, .slice none 0 0, .slice none 0 0] 70) |>.cell (i := 4) rfl
 have l1 := ((BL.out.below hb).alloc (.cells #[.slice ay S.r.length cy, .int .i64 S.q, .int .i64 S.d] 67)).cell (i := 0) rfl
 clear hWc X1 hb hbc hF0 hF1 hF2 hF3
 gi_wp2_with (refine ⟨trivial, ?_⟩; gi_at_call 80; refine (callsIn_wide.2 (each_any _ _ _ _)).mono ?_; rintro e w' ⟨rfl, rfl⟩)
 clear x0 l1
 simp only [HWc.out, Nat.add_assoc, Nat.reduceAdd]
 clear HWc
 have h6 := ok_six (m := m) (by have h9 := HOK.out; unfold newOk at h9; simp only [Bool.and_eq_true] at h9; exact h9.1)
 obtain ⟨b, hbb, hI⟩ : ∃ b, b < w.heap.size + 1 ∧ (m.e = [] ∨ ∃ off, ae = some ⟨b, off, none⟩ ∧ EvsAt Wc b off m.e) := by
  rcases HE.out with h9 | ⟨b, off, h9, h8⟩
  ·exact ⟨w.heap.size, by omega, .inl h9⟩
  ·have hl := h8.1
   exact ⟨b, by omega, .inr ⟨off, h9, h8.below HB1.out hl⟩⟩
 have hmo : Tryz.prog.follows .mixedOrders = true := by kernel_rfl
 refine wpIn_rangeFunc_ownH rfl (by omega) (gf := 103) (lb := #[.pointer (some ⟨w1.heap.size + 2, 0, none⟩)]) rfl trivial (enters_of Tryz.func103 (by kernel_rfl) rfl)
  (each_stops Fence.wide 4 trivial rfl (by omega) (w1.heap.size + 2) b ae ce m.e (by omega) Wc (by omega) (HSL.out.cell (i := 0) rfl) hI) Same2.trans (Same2.putObj (by omega) (by omega)) (Below.refl _ _) (fun _ => rfl)
  (PnJ Wc (w1.heap.size + 1) lp (.slice ay S.r.length cy) S.q S.d m.e)
  (fun _ _ _ => False)
  (pn_own Wc (w1.heap.size + 1) lp _ _ _ m.e)
  (fun _ _ _ _ _ hs _ _ => hs)
  ⟨_, HP.out, World.ownsRow_nil _ _ _ _, Turns.refl _ _⟩
  (fun x a' W3 => ∃ (Bx : Nat) (u0 u1 u2 u4 u5 u6 u7 u9 u11 u12 u13 u14 u15 u16 u17 u18 u19 u20 u21 u22 u23 u24 u25 u26 u27 u28 u29 u30 u31 u32 u33 u34 u35 u36 u37 u38 u39 u40 u41 : Value), Wc.heap.size ≤ Bx ∧ Bk W3 Bx 99 #[.int .i64 (evAt m.e x.val).t, .int .i64 (evAt m.e x.val).s, .int .i64 (evAt m.e x.val).q, .int .i64 (evAt m.e x.val).d, .int .i64 (evAt m.e x.val).k, .int .i64 (evAt m.e x.val).v, .int .i64 (evAt m.e x.val).g] ∧ a' = { tmps := #[u0, u1, u2, .pointer (some ⟨w.heap.size + 1, 0, none⟩), u4, u5, u6, u7, .pointer (some ⟨w1.heap.size + 1, 0, none⟩), u9, .pointer (some ⟨Bx, 0, none⟩), u11, u12, u13, u14, u15, u16, u17, u18, u19, u20, u21, u22, u23, u24, u25, u26, u27, u28, u29, u30, u31, u32, u33, u34, u35, u36, u37, u38, u39, u40, u41], defers := [] })
  (fun x a' s X Y row hs hg hr => by
   obtain ⟨Bx, u0, u1, u2, u4, u5, u6, u7, u9, u11, u12, u13, u14, u15, u16, u17, u18, u19, u20, u21, u22, u23, u24, u25, u26, u27, u28, u29, u30, u31, u32, u33, u34, u35, u36, u37, u38, u39, u40, u41, h1, h2, h6⟩ := hs
   have ht : Turns (fun q => row = some q) X Y := ⟨hg.os, hg.tape, hg.output, hg.size, fun q hq hn => hg.block q hq (fun e => hn e.symm)⟩
   exact ⟨Bx, u0, u1, u2, u4, u5, u6, u7, u9, u11, u12, u13, u14, u15, u16, u17, u18, u19, u20, u21, u22, u23, u24, u25, u26, u27, u28, u29, u30, u31, u32, u33, u34, u35, u36, u37, u38, u39, u40, u41, h1, h2.turns ht (fun e1 => by obtain ⟨o, ho, hc⟩ := (hr _ e1).2; rw [bk_cells h2 ho] at hc; cases hc), h6⟩) ?assign ?body ?done ?stop
 case assign =>
  rintro lp' pre x W3 K ⟨vt, hp3, ho3, ht3⟩ hK
  have hz3 := ht3.size
  gi_wp2
  have hBW : Below W3.heap.size W3 (W3.alloc (.cells #[.int .i64 (evAt m.e x.val).t, .int .i64 (evAt m.e x.val).s, .int .i64 (evAt m.e x.val).q, .int .i64 (evAt m.e x.val).d, .int .i64 (evAt m.e x.val).k, .int .i64 (evAt m.e x.val).v, .int .i64 (evAt m.e x.val).g] 99)) := (Below.refl _ W3).alloc (Nat.le_refl _) _
  exact hK _ _ ((KeepsOthers.alloc _ _).from _) (Same2.below hBW (by omega) (by omega)) ⟨vt, hp3.below hBW, owns_turns (S := fun _ => False) ho3 (Turns.of_below hBW) (fun _ _ => id), ht3.alloc _⟩ ⟨W3.heap.size, _, _, _, _, _, _, _, _, _, _, _, _, _, _, _, _, _, _, _, _, _, _, _, _, _, _, _, _, _, _, _, _, _, _, _, _, _, _, _, hz3, Bk.new W3 _ _, rfl⟩
 case stop =>
  rintro D c pre W3 _ _ h _
  exact h.elim
 case body =>
  rintro lp' pre x a' W3 hlp _ ⟨vt, hp3, ho3, ht3⟩ ⟨Bx, u0, u1, u2, u4, u5, u6, u7, u9, u11, u12, u13, u14, u15, u16, u17, u18, u19, u20, u21, u22, u23, u24, u25, u26, u27, u28, u29, u30, u31, u32, u33, u34, u35, u36, u37, u38, u39, u40, u41, h1, h2, rfl⟩ hlt
  have hz3 := ht3.size
  have HP3 := hidNIp hp3
  have HO3 := hidNIp ho3
  have HT3 := hidNIp ht3
  have HE3 := hidNIp h2
  have L3 := L1.out.turns ht3 (by omega)
  have l0 := L3.cell (i := 0) rfl
  obtain ⟨e0, e1, e2, e3, e4, e5, e6⟩ := c7_7 h2
  clear hp3 ho3 ht3 h2 L3
  by_cases hd : (evAt m.e x.val).d = lp
  ·have HD := hidNIp hd
   rw [hd] at e3
   obtain ⟨L, hL⟩ : ∃ L, flN lp m.e pre = L := ⟨_, rfl⟩
   have hLl : L.length ≤ 6 := by have h9 := flN_len lp m.e pre; rw [hL] at h9; omega
   have HO3' := HO3.out
   rw [hL] at HO3'
   have HO4 := hidNIp HO3'
   obtain ⟨a5, c5, hv5⟩ := owns_slice HO3'
   subst hv5
   have HLL : Hid (flN lp m.e (pre ++ [x]) = L ++ [evAt m.e x.val]) := by
    have h9 := flN_yes lp m.e pre x hd
    rw [hL] at h9
    exact h9
   clear hL HO3' HO3
   obtain ⟨y, hy⟩ : ∃ y, evAt m.e x.val = y := ⟨_, rfl⟩
   have HY : Hid (evAt m.e x.val = y) := hy
   have hyd : y.d = lp := hy ▸ hd
   obtain ⟨V1, hV1⟩ : ∃ V1, W3.alloc (.cells #[.int .i64 y.t, .int .i64 y.s, .int .i64 y.q, .int .i64 lp, .int .i64 y.k, .int .i64 y.v, .int .i64 y.g] 99) = V1 := ⟨_, rfl⟩
   have hbV : Below W3.heap.size W3 V1 := hV1 ▸ (Below.refl _ W3).alloc (Nat.le_refl _) _
   have HBV := hidNIp hbV
   have hN1 : Bk V1 W3.heap.size 99 #[.int .i64 y.t, .int .i64 y.s, .int .i64 y.q, .int .i64 y.d, .int .i64 y.k, .int .i64 y.v, .int .i64 y.g] := by rw [hyd, ← hV1]; exact Bk.new _ _ _
   have HS1 := hidNIp hN1.one
   have HO1 := hidNIp (owns_turns (S := fun _ => False) HO4.out (Turns.of_below hbV) (fun _ _ => id))
   have HP1 := hidNIp (HP3.out.below hbV)
   obtain ⟨ie, hie, hie0, hie1, hie2⟩ := info_parts infoEvE
   have q5 := HP3.out.cell (i := 5) rfl
   have hVz : Wc.heap.size ≤ V1.heap.size := by have := hbV.size; omega
   rw [hy] at e0 e1 e2 e4 e5 e6
   clear hbV hN1 hd hy hyd
   gi_wp2_with (gi_at_builtin; refine wpListIn_append_own V1 rfl _ _ 29 rfl Wc.heap.size 99 ie (.agg #[.int .i64 0, .int .i64 0, .int .i64 0, .int .i64 0, .int .i64 0, .int .i64 0, .int .i64 0]) 7 56 Tryz.underlying29 hie hie0 hie1 hie2 rfl (by decide) (.slice a5 L.length c5) L.length (cellsL L) rfl HO1.out ⟨W3.heap.size, 0, none⟩ 1 1 y.cs rfl rfl (HS1.out.at (by omega)) (Ev.cs_one y) (by unfold maxLen; omega) (by omega) hVz ?_; intro vn w13 hown hgrow _; obtain ⟨an, cn, hvn⟩ := owns_slice hown; subst hvn; have hgt := grown_turns hgrow; have HP13 : Hid (Bk w13 (w1.heap.size + 1) 70 #[.int .i64 lp, .slice ay S.r.length cy, .int .i64 S.q, .int .i64 S.d, .slice none 0 0, .slice a5 L.length c5, .slice none 0 0]) := HP1.out.turns hgt (owns_ne HO1.out HP1.out (by decide)); have HO13 : Hid (w13.ownsRow Wc.heap.size 99 7 (.slice an (L.length + 1) cn) (L.length + 1) (cellsL L ++ y.cs)) := hown; have HT13 : Hid (Turns (fun k => (Value.slice a5 L.length c5).ownBlock = some k) V1 w13) := hgt; have p5 := HP13.out.cell (i := 5) rfl; have pf := HP13.out.free; clear hown hgrow hgt)
   obtain ⟨X5, hX5⟩ : ∃ X5, w13.setCell ⟨w1.heap.size + 1, 5, none⟩ (.slice an (L.length + 1) cn) = X5 := ⟨_, rfl⟩
   have hP5 := HP13.out.put 5 (.slice an (L.length + 1) cn)
   have ht5 := put1_turns w13 (w1.heap.size + 1) 5 (.slice an (L.length + 1) cn)
   rw [hX5] at hP5 ht5
   try rw [hX5]
   have hT5 : Turns (fun q => q = w1.heap.size + 1 ∨ (Value.slice a5 L.length c5).ownBlock = some q) W3 X5 := ((Turns.of_below HBV.out).trans (HT13.out.mono (fun k e1 => .inr e1))).trans (ht5.mono (fun k e1 => .inl e1))
   have hOx := ownR_snoc (owns_turns HO13.out ht5 (fun k hk e1 => owns_ne HO13.out HP13.out (by decide) (e1 ▸ hk)))
   have hlow : ∀ q, (Value.slice a5 L.length c5).ownBlock = some q → Wc.heap.size ≤ q := fun q e1 => (World.ownsRow.lt HO4.out q e1).1
   have hz5 := hT5.size
   show KeepsFrom Wc.heap.size W3 X5 ∧ Same2 (w1.heap.size + 2) b W3 X5 ∧ PnJ Wc (w1.heap.size + 1) lp (.slice ay S.r.length cy) S.q S.d m.e (pre ++ [x]) X5
   refine ⟨(keepsOthers_of_turns hT5 (fun q o hs ho => ?_)).from _, ⟨hT5.block _ (by omega) (fun e1 => e1.elim (by omega) (fun e1 => by have := hlow _ e1; omega)), hT5.block b (by omega) (fun e1 => e1.elim (by omega) (fun e1 => by have := hlow _ e1; omega))⟩, .slice an (L.length + 1) cn, hP5, ?_, ⟨hT5.os.trans HT3.out.os, hT5.tape.trans HT3.out.tape, hT5.output.trans HT3.out.output, Nat.le_trans HT3.out.size hz5, fun q hq hn => (hT5.block q (by omega) (fun e1 => e1.elim hn (fun e1 => by have := hlow _ e1; omega))).trans (HT3.out.block q hq hn)⟩⟩
   ·rcases hs with e1 | e1
    ·subst e1; exact bk_cells HP3.out ho
    ·exact row_cells HO4.out e1 ho
   ·rw [HLL.out, HY.out]
    exact hOx
  ·have HD := hidNIp hd
   have hdb : ((evAt m.e x.val).d == lp) = false := by rw [beq_eq_false_iff_ne]; exact hd
   gi_wp2
   refine ⟨(keepsOthers_of_below (Below.refl _ _)).from _, Same2.refl _ _ _, vt, HP3.out, ?_, HT3.out⟩
   rw [flN_no lp m.e pre x HD.out]
   exact HO3.out
 case done =>
  rintro E ys W9 hE rfl ⟨vt, hp9, ho9, ht9⟩ hE9
  rw [flN_all] at ho9
  obtain ⟨L, hL⟩ : ∃ L, m.e.filter (fun e => decide (e.d = lp)) = L := ⟨_, rfl⟩
  rw [hL] at ho9
  have HL := hidNIp hL
  have hLl : L.length ≤ 6 := by rw [← hL]; exact Nat.le_trans (List.length_filter_le _ _) h6
  have hmok : m.ok = true := by have h9 := HOK.out; unfold newOk at h9; simp only [Bool.and_eq_true] at h9; exact h9.1
  have hst := start_one hmok
  have HLo : Hid (∀ e ∈ L, e.ok = true) := fun e he => by rw [← hL] at he; exact hst.2 e (List.mem_filter.1 he).1
  have HP9 := hidNIp hp9
  have HT9 := hidNIp ht9
  have HO9 := hidNIp ho9
  have hz9 : Wc.heap.size ≤ W9.heap.size := ht9.size
  have HE9 := hidNIp hE9
  have hp5 := hp9.cell (i := 5) rfl
  have HFIN : Hid (∀ (l' : List Ev) (W : World), l'.Perm L → (∀ i j, i < j → j < l'.length → ¬ (evAt l' j).cmp (evAt l' i) < 0) → l' = newL lp.toNat m.e) := fun l' W hp hs => by
   refine newL_is hst.1 ?_ ?_
   ·have h9 : ((lp.toNat : Nat) : Int) = lp := by
     have h8 := HOK.out
     unfold newOk isPart at h8
     simp only [Bool.and_eq_true, decide_eq_true_eq] at h8
     omega
    rw [h9, hL]
    exact hp
   ·rw [List.pairwise_iff_getElem]
    intro i j hi hj hij
    have h9 := hs i j hij hj
    unfold leE
    simpa [evAt, hi, hj] using h9
  have HEND : Hid (∀ (vt' : Value) (l' : List Ev) (W5 : World), l'.Perm L → (∀ i j, i < j → j < l'.length → ¬ (evAt l' j).cmp (evAt l' i) < 0) → W5.ownsRow Wc.heap.size 99 7 vt' l'.length (cellsL l') → Turns (fun k => k = w1.heap.size + 1 ∨ Wc.heap.size ≤ k) Wc W5 → ∀ X5, Turns (fun q => q = w.heap.size + 2 ∨ q = E) W5 X5 → W5.heap[E]? = some (.deferred (some [])) → AnsN w X5 (.returned (.tuple #[.agg #[.int .i64 lp, .slice ay S.r.length cy, .int .i64 S.q, .int .i64 S.d, .slice none 0 0, vt', .slice none 0 0], .bool true])) (newA m lp) (newOk m lp)) := fun vt' l' W5 hp hs ho ht X5 ht5 hX => by
   have hn := new_yes HOK.out
   have hl := HFIN.out l' W5 hp hs
   have hlp : ((lp.toNat : Nat) : Int) = lp := by
    have h8 := HOK.out
    unfold newOk isPart at h8
    simp only [Bool.and_eq_true, decide_eq_true_eq] at h8
    omega
   have hz5 := ht.size
   have hz6 := ht5.size
   have hsv := stateOf_yes HOK.out
   rw [hn.1, hn.2]
   have hN : newP m lp.toNat = ⟨lp, S, [], l', []⟩ := by
    unfold newP
    rw [hlp, ← hl, ← HSS.out, hsv]
   rw [hN]
   have hT : Turns (fun q => q = w1.heap.size + 1 ∨ Wc.heap.size ≤ q ∨ q = w.heap.size + 2 ∨ q = E) Wc X5 := (ht.mono (fun k e1 => e1.elim .inl (fun e2 => .inr (.inl e2)))).trans (ht5.mono (fun k e1 => .inr (.inr e1)))
   refine ⟨_, rfl, HB1.out.trans (hT.to_below (fun q hq => by omega) HB1.out.size), ?_⟩
   refine new_partF (w1 := w1) (B := Wc.heap.size) (RowF.mono (HRS.out.turns hT (fun k hk e1 => by omega)) (fun k hk => ⟨by omega, hk.2⟩)) (owns_turns ho ht5 (fun k hk e1 => ?_)) (by omega) rfl (by omega) (by omega)
   have h8 := World.ownsRow.lt ho k hk
   rcases e1 with e1 | e1
   ·omega
   ·subst e1
    have h9 := row_cells ho hk hX
    cases h9
  obtain ⟨a5, c5, hv5⟩ := owns_slice ho9
  subst hv5
  have Z9 := hidNIp (Z1.out.turns ht9 (by omega))
  clear hL hst hmok hp9 ht9 ho9 HFIN hE9
  gi_wp2_with (refine ⟨trivial, ?_⟩; gi_at_call 81; refine (callsIn_wide.2 (sort_own _ _ L W9 HLo.out (by omega) HO9.out)).mono ?_; rintro e w5 ⟨rfl, l', hpm, hsrt, ho5, ht5⟩; have HPM : Hid (l'.Perm L) := hpm; have HSR : Hid (∀ i j, i < j → j < l'.length → ¬ (evAt l' j).cmp (evAt l' i) < 0) := hsrt; have HO5 : Hid (w5.ownsRow Wc.heap.size 99 7 (.slice a5 L.length c5) l'.length (cellsL l')) := ho5; have HT5a : Hid (Turns (fun k => (Value.slice a5 L.length c5).ownBlock = some k) W9 w5) := ht5; have HP5a : Hid (Bk w5 (w1.heap.size + 1) 70 #[.int .i64 lp, .slice ay S.r.length cy, .int .i64 S.q, .int .i64 S.d, .slice none 0 0, .slice a5 L.length c5, .slice none 0 0]) := HP9.out.turns ht5 (owns_ne HO9.out HP9.out (by decide)); have HZ5 : Hid (Bk w5 (w.heap.size + 2) 70 #[.int .i64 0, .slice none 0 0, .int .i64 0, .int .i64 0, .slice none 0 0, .slice none 0 0, .slice none 0 0]) := Z9.out.turns ht5 (owns_ne HO9.out Z9.out (by decide)); have HE5 : Hid (w5.heap[E]? = some (.deferred (some []))) := (ht5.block E (by have := (Array.getElem?_eq_some_iff.1 HE9.out).1; exact this) (fun e1 => by have h9 := row_cells HO9.out e1 HE9.out; cases h9)).trans HE9.out; clear hpm hsrt ho5 ht5; have p0 := HP5a.out.cell (i := 0) rfl; have p1 := HP5a.out.cell (i := 1) rfl; have p2 := HP5a.out.cell (i := 2) rfl; have p3 := HP5a.out.cell (i := 3) rfl; have p4 := HP5a.out.cell (i := 4) rfl; have p5 := HP5a.out.cell (i := 5) rfl; have p6 := HP5a.out.cell (i := 6) rfl; have z0 := HZ5.out.cell (i := 0) rfl; have z1 := HZ5.out.cell (i := 1) rfl; have z2 := HZ5.out.cell (i := 2) rfl; have z3 := HZ5.out.cell (i := 3) rfl; have z4 := HZ5.out.cell (i := 4) rfl; have z5 := HZ5.out.cell (i := 5) rfl; have z6 := HZ5.out.cell (i := 6) rfl; have zf := HZ5.out.free; obtain ⟨X5, hX5⟩ : ∃ X5, put7s w5 (w.heap.size + 2) (.int .i64 lp) (.slice ay S.r.length cy) (.int .i64 S.q) (.int .i64 S.d) (.slice none 0 0) (.slice a5 L.length c5) (.slice none 0 0) = X5 := ⟨_, rfl⟩; have hP := HZ5.out.put7s (.int .i64 lp) (.slice ay S.r.length cy) (.int .i64 S.q) (.int .i64 S.d) (.slice none 0 0) (.slice a5 L.length c5) (.slice none 0 0); have ht := put7s_turns w5 (w.heap.size + 2) (.int .i64 lp) (.slice ay S.r.length cy) (.int .i64 S.q) (.int .i64 S.d) (.slice none 0 0) (.slice a5 L.length c5) (.slice none 0 0); rw [hX5] at hP ht; unfold put7s at hX5; have HX5 : Hid _ := hX5; have HP5 : Hid (Bk X5 (w.heap.size + 2) 70 #[.int .i64 lp, .slice ay S.r.length cy, .int .i64 S.q, .int .i64 S.d, .slice none 0 0, .slice a5 L.length c5, .slice none 0 0]) := hP; have HT5 : Hid (Turns (fun q => q = (w.heap.size + 2)) w5 X5) := ht; clear hX5 hP ht)
  try rw [HX5.out]
  have hzE : E < w5.heap.size := (Array.getElem?_eq_some_iff.1 HE5.out).1
  have hEX : X5.heap[E]? = some (.deferred (some [])) := (HT5.out.block E hzE (by omega)).trans HE5.out
  have hTf : Turns (fun k => k = E) X5 (X5.putObj E (.deferred none)) := (Turns.refl (fun k => k = E) X5).grown (grownBy_putObj' _ E (.deferred none)) (fun k e => by cases e; rfl)
  have hP6 := HP5.out.turns hTf (by omega)
  refine ⟨by simp, .inl ⟨_, _, rfl, run_takeDeferred hEX, ?_⟩⟩
  have hz59 := HT5a.out.size
  refine ⟨.tuple #[.agg #[.int .i64 lp, .slice ay S.r.length cy, .int .i64 S.q, .int .i64 S.d, .slice none 0 0, .slice a5 L.length c5, .slice none 0 0], .bool true], ?_, HEND.out _ l' w5 HPM.out HSR.out HO5.out ((HT9.out.mono (fun k e1 => .inl e1)).trans (HT5a.out.mono (fun k e1 => .inr (World.ownsRow.lt HO9.out k e1).1))) _ ((HT5.out.mono (fun k e1 => .inl e1)).trans (hTf.mono (fun k e1 => .inr e1))) HE5.out⟩
  obtain ⟨t0, t1, t2, t3, t4, t5, t6⟩ := c7_7 hP6
  simp [results, Tryz.f35, go_sem, t0, t1, t2, t3, t4, t5, t6]
theorem iPartNew (x : Value) (m : Md) (lp : Int) (w : World) (hs : SmallM m) (h : IsM w x m) :
  Calls Tryz.prog 35 #[x, .int .i64 lp] w fun r w' => AnsN w w' r (newA m lp) (newOk m lp) := by
 cases hok : newOk m lp with
 | false => exact hok ▸ iPartNew_no x m lp w hs h hok
 | true => exact hok ▸ iPartNew_yes x m lp w hs h hok
end Go.Proofs.YthfhibnnkpbeiaaGreat

/- Vectors: the program's VectorOk. -/
namespace Go.Proofs.YthfhibnnkpbeiaaGreat
open Go.RowKit
set_option maxHeartbeats 400000 in
theorem iVok_any (x : Value) (l : List Int) (w : World) (hl : l.length ≤ 4611686018427387904) (h : IsI w x l) :
  Calls Tryz.prog 32 #[x] w fun e w' => e = .returned (.bool (vok l)) ∧ Below w.heap.size w w' := by
 have H := of_any x l w hl h
 generalize vok l = b at H ⊢
 unfold vecOf at H
 split at H
 all_goals
  go_enter Tryz.func32, Tryz.ntmps32
  go_wp2_with (go_at_call 75; refine H.mono ?_; rintro e w1 ⟨rfl, hb⟩)
  go_ret
  exact ⟨rfl, hb.alloc hb.size _⟩
end Go.Proofs.YthfhibnnkpbeiaaGreat

