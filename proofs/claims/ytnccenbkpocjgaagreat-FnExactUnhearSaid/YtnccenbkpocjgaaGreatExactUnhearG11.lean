/- UPu, SlDe, UUp -/
import Derived.Test.YtnccenbkpocjgaaGreatExactUnhearG10
import Derived.Test.YtnccenbkpocjgaaGreatExactUnhearG06
import Derived.Lib.SliceRun
import Derived.Test.YtnccenbkpocjgaaGreatExactUnhearLPGf
import Derived.Test.YtnccenbkpocjgaaGreatExactHearG22
import Derived.Test.YtnccenbkpocjgaaGreatExactHearG03
import Derived.Test.YtnccenbkpocjgaaGreatExactHearG24
/- What becomes of a part that hears that an event is not to be: in plain words. -/
namespace Go.Proofs.YtnccenbkpocjgaaGreat
open Go.RowKit
def EvIs (l : List Ev) (g : Int) (i : Nat) : Prop := i < l.length ∧ (evAt l i).g = g
def OneTag (l : List Ev) : Prop := ∀ i, i < l.length → ∀ j, j < i → (evAt l j).g ≠ (evAt l i).g
noncomputable def evO (l : List Ev) (g : Int) : Option Nat := @dite _ (∃ i, EvIs l g i) (Classical.propDecidable _) (fun h => some h.choose) (fun _ => none)
theorem EvIs.uniq {l : List Ev} (h : OneTag l) {g : Int} {i j : Nat} (hi : EvIs l g i) (hj : EvIs l g j) : i = j := by
 rcases Nat.lt_trichotomy i j with hl | hl | hl
 ·exact absurd (hi.2.trans hj.2.symm) (h j hj.1 i hl)
 ·exact hl
 ·exact absurd (hj.2.trans hi.2.symm) (h i hi.1 j hl)
theorem evO_some {l : List Ev} (h : OneTag l) {g : Int} {i : Nat} (hi : EvIs l g i) : evO l g = some i := by
 unfold evO
 have hx : ∃ i, EvIs l g i := ⟨i, hi⟩
 rw [dif_pos hx, EvIs.uniq h hx.choose_spec hi]
theorem evO_none {l : List Ev} {g : Int} (h : ∀ i, i < l.length → (evAt l i).g ≠ g) : evO l g = none := by
 unfold evO
 rw [dif_neg (fun ⟨i, hi⟩ => h i hi.1 hi.2)]
def bkK (p : Pa) (e : Ev) : Nat := if hasB p.p p.p.length e.g = true then cutK p.p e else p.p.length
theorem bkK_le (p : Pa) (e : Ev) : bkK p e ≤ p.p.length := by
 unfold bkK
 split
 ·exact (cutK_at p.p e).le
 ·exact Nat.le_refl _
theorem bkK_yes {p : Pa} {e : Ev} (h : hasB p.p p.p.length e.g = true) : bkK p e = cutK p.p e := by unfold bkK; rw [if_pos h]
theorem bkK_no {p : Pa} {e : Ev} (h : hasB p.p p.p.length e.g = false) : bkK p e = p.p.length := by unfold bkK; rw [if_neg (by rw [h]; simp)]
theorem back_one {p : Pa} (hg : GoodP p) {j : Nat} (hj : j ≤ p.p.length) : OneTag (p.back j).t := by
 rw [back_todo p hj]
 intro i hi k hk
 rw [List.length_drop] at hi
 rw [evAt_drop, evAt_drop]
 exact hg.2.2.2.2.1.2.2.2 (j + i) (by omega) (j + k) (by omega)
def Pa.cutT (p : Pa) (i : Nat) : Pa := ⟨p.n, p.st, p.p, p.t.take i ++ p.t.drop (i + 1), p.a⟩
noncomputable def endQ (q : Pa) (g : Int) : Pa := match evO q.t g with
 | some i => q.cutT i
 | none => q.setA (markL q.a g)
theorem endQ_some {q : Pa} {g : Int} {i : Nat} (h : evO q.t g = some i) : endQ q g = q.cutT i := by unfold endQ; rw [h]
theorem endQ_none {q : Pa} {g : Int} (h : evO q.t g = none) : endQ q g = q.setA (markL q.a g) := by unfold endQ; rw [h]
noncomputable def unhQ (p : Pa) (e : Ev) : Pa := endQ (p.back (bkK p e)) e.g
def unhU (p : Pa) (e : Ev) : List Ev := undoL p.p (bkK p e)
theorem todo_done {p : Pa} (hg : GoodP p) {g : Int} {i : Nat} (hi : i < p.t.length) (h : (evAt p.t i).g = g) : hasB p.p p.p.length g = false := by
 refine hasB_no.2 fun j hj e => ?_
 have h1 := hg.2.2.2.2.1.2.2.2 (p.p.length + i) (by rw [all_length]; omega) j (by omega)
 rw [all_done p hj, all_todo] at h1
 exact h1 (e.trans h.symm)
theorem knows_has {p : Pa} {g : Int} (h : ∀ i, i < p.t.length → (evAt p.t i).g ≠ g) : knowsB p g = hasB p.p p.p.length g := by
 cases hh : hasB p.p p.p.length g
 ·cases hk : knowsB p g
  ·rfl
  ·rcases knows_two.1 hk with h1 | ⟨i, hi, e⟩
   ·rw [hh] at h1; cases h1
   ·exact absurd e (h i hi)
 ·exact knows_two.2 (.inl hh)
theorem unh_len {p : Pa} {e : Ev} (hg : GoodP p) : (p.back (bkK p e)).t.length ≤ 2200 := by
 rw [back_todo p (bkK_le p e), List.length_drop, all_length]
 have := hg.1
 omega
theorem unhU_len {p : Pa} {e : Ev} (hg : GoodP p) : (unhU p e).length ≤ 10000 := by
 have h1 := undo_len (p := p) (bkK_le p e)
 have h2 := take_wt9 hg p.p.length
 rw [List.take_length] at h2
 unfold unhU
 omega
theorem backSt9 {p : Pa} (hg : GoodP p) (j : Nat) : (p.back j).st.r.length = 2 := by
 by_cases hlt : j < p.p.length
 ·rw [back_st p hlt]
  exact st_two (hg.2.2.2.1 _ hlt).1
 ·show (if j < p.p.length then _ else p.st : St).r.length = 2
  rw [if_neg hlt]
  exact st_two hg.2.2.1
theorem unhQ_wt {p : Pa} {e : Ev} (hg : GoodP p) : (unhQ p e).wt ≤ 10000 := by
 have h1 := backSt9 hg (bkK p e)
 have h2 : (pastsD (p.back (bkK p e)).p).wt ≤ 3800 := take_wt9 hg _
 have h3 := unh_len (e := e) hg
 have h4 : (p.back (bkK p e)).a.length ≤ 2000 := hg.1.2.2
 unfold unhQ
 generalize p.back (bkK p e) = q at h1 h2 h3 h4
 cases ha : evO q.t e.g with
 | some i =>
  rw [endQ_some ha]
  unfold Pa.wt Pa.cutT
  dsimp only
  rw [ints_wt, evs_wt, ints_wt, h1, List.length_append, List.length_take, List.length_drop]
  omega
 | none =>
  rw [endQ_none ha]
  have h5 := markL_len q.a e.g
  unfold Pa.wt Pa.setA
  dsimp only
  rw [ints_wt, evs_wt, ints_wt, h1]
  omega
noncomputable def unhOk (p : Pa) (e : Ev) : Bool := p.ok && e.ok && decide (e.d = p.n)
theorem unhOk_iff {p : Pa} {e : Ev} : unhOk p e = true ↔ p.ok = true ∧ e.ok = true ∧ e.d = p.n := by
 unfold unhOk
 simp [and_assoc]
noncomputable def unhA (p : Pa) (e : Ev) : Pa := if unhOk p e = true then outA (unhQ p e) p else Pa.none
noncomputable def unhB (p : Pa) (e : Ev) : List Ev := if unhOk p e = true then outB (unhQ p e) (unhU p e) else []
noncomputable def unhC (p : Pa) (e : Ev) : Bool := unhOk p e && (unhQ p e).ok
theorem unh_not {p : Pa} {e : Ev} (h : ¬ unhOk p e = true) : unhA p e = Pa.none ∧ unhB p e = [] ∧ unhC p e = false := by
 unfold unhA unhB unhC
 rw [if_neg h, if_neg h]
 refine ⟨rfl, rfl, ?_⟩
 cases hh : unhOk p e
 ·rfl
 ·exact absurd hh h
theorem unh_yes {p : Pa} {e : Ev} (h : unhOk p e = true) : unhA p e = outA (unhQ p e) p ∧ unhB p e = outB (unhQ p e) (unhU p e) ∧ unhC p e = (unhQ p e).ok := by
 unfold unhA unhB unhC
 rw [if_pos h, if_pos h, h]
 exact ⟨rfl, rfl, rfl⟩
theorem unh_small {p : Pa} {e : Ev} : (unhA p e).wt ≤ 1048576 ∧ (evsD (unhB p e)).wt ≤ 1048576 := by
 rw [evs_wt]
 cases hh : unhOk p e
 ·obtain ⟨h1, h2, _⟩ := unh_not (p := p) (e := e) (by rw [hh]; simp)
  rw [h1, h2]
  exact ⟨none_wt, by simp⟩
 ·obtain ⟨h1, h2, _⟩ := unh_yes hh
  have hg : GoodP p := Pa.ok_iff.1 (unhOk_iff.1 hh).1
  rw [h1, h2]
  unfold outA outB
  have h3 := good_small hg
  have h4 := unhQ_wt (e := e) hg
  have h5 := unhU_len (e := e) hg
  constructor
  ·split <;> omega
  ·split
   ·omega
   ·simp
end Go.Proofs.YtnccenbkpocjgaaGreat
/- slices.Delete, of one: what is behind it moves up. -/
namespace Go.Proofs.YtnccenbkpocjgaaGreat
open Go.RowKit
theorem cleare (w : World) (g o cp : Nat) (cur : Array Value) (hg : w.heap[g]? = some (.cells cur 55 (0, 0))) (hf : o + 7 ≤ cur.size) :
  ∃ cur' : Array Value, (∀ ty, (Builtin.clear_ #[31] ty #[.slice (some ⟨g, o, none⟩) 1 cp]).run Tryz.prog w = .ok (.tuple #[]) (w.setRow g cur')) ∧ cur'.size = cur.size ∧ cur'.toList.take o = cur.toList.take o := by
 refine ⟨_, fun ty => run_clear_one w 31 55 ty (.agg #[.int .i64 0, .int .i64 0, .int .i64 0, .int .i64 0, .int .i64 0, .int .i64 0, .int .i64 0]) Tryz.underlying31 (fun w => by kernel_rfl) g o cp cur [.int .i64 0, .int .i64 0, .int .i64 0, .int .i64 0, .int .i64 0, .int .i64 0, .int .i64 0] (by kernel_rfl) (by intro v hv; simp at hv; subst hv; rfl) hg (by simpa using hf), ?_, ?_⟩
 ·simp only [List.size_toArray, List.length_append, List.length_take, List.length_drop, Array.length_toList, List.length_cons, List.length_nil]; omega
 ·simp only [List.append_assoc]
  rw [List.take_append_of_le_length (by rw [List.length_take, Array.length_toList]; omega), List.take_take, Nat.min_self]
set_option maxRecDepth 100000 in
set_option maxHeartbeats 8000000 in
theorem dele_any (B g k cap i : Nat) (xs : List Value) (w : World) (hi : i < k + 1) (h1 : ∀ v ∈ xs, v.oneCell' = true) (h : w.ownsRow B 55 7 (.slice (some ⟨g, 0, none⟩) (k + 1) cap) (k + 1) xs) :
  Calls Tryz.prog 177 #[.slice (some ⟨g, 0, none⟩) (k + 1) cap, .int .i64 (i : Int), .int .i64 ((i : Int) + 1)] w fun e w' =>
   e = .returned (.slice (some ⟨g, 0, none⟩) k cap) ∧ w'.ownsRow B 55 7 (.slice (some ⟨g, 0, none⟩) k cap) k (xs.take (i * 7) ++ xs.drop ((i + 1) * 7)) ∧ w.grownBy w' (some g) := by
 obtain ⟨i0, hi0, hz0, hz1, hz2⟩ := info_parts infoSle
 obtain ⟨cur, hg, hBg, hnc, hcm, hcs, htk⟩ := owns_block h
 have hcm2 : cap ≤ 9223372036854775807 := by unfold maxLen at hcm; omega
 have HX : Hid (xs.length = (k + 1) * 7) := h.1
 have s1 := cutMe (some ⟨g, 0, none⟩) (k + 1) cap i (i + 1) (k + 1) (by omega) (by omega) hnc
 have s2 := cutHe (some ⟨g, 0, none⟩) (k + 1) cap i (by omega)
 have s3 := cutLe (some ⟨g, 0, none⟩) (k + 1) cap (i + 1) (by omega)
 have s4 := cutTe (some ⟨g, 0, none⟩) k cap k (k + 1) (by omega) hnc
 have ci : (((i + 1 : Nat)) : Int) = (i : Int) + 1 := by omega
 have ck : (((k + 1 : Nat)) : Int) = (k : Int) + 1 := by omega
 rw [ci, ck] at s1
 rw [ci] at s3
 rw [ck] at s4
 have e2 : sliced (some ⟨g, 0, none⟩) 0 i cap 7 = .slice (some ⟨g, 0, none⟩) i cap := by
  unfold sliced
  rw [if_neg (by omega)]; simp [Addr.add_lit]
 have e4 : sliced (some ⟨g, 0, none⟩) k (k + 1) cap 7 = .slice (some ⟨g, k * 7, none⟩) 1 (cap - k) := by
  unfold sliced
  rw [if_neg (by omega), show k + 1 - k = 1 by omega]; simp [Addr.add_lit]
 obtain ⟨a3, c3, e3, hs3⟩ : ∃ a3 c3, sliced (some ⟨g, 0, none⟩) (i + 1) (k + 1) cap 7 = .slice (some a3) (k + 1 - (i + 1)) c3 ∧ ∀ j u, (xs.drop ((i + 1) * 7))[j]? = some u → w.drew.cell? (a3.add j) = some u := by
  unfold sliced
  by_cases h0 : cap = i + 1
  ·rw [if_pos h0]
   refine ⟨_, _, rfl, fun j u hu => ?_⟩
   rw [List.drop_eq_nil_of_le (by rw [HX.out]; exact Nat.mul_le_mul_right _ (by omega))] at hu
   simp at hu
  ·rw [if_neg h0]
   refine ⟨⟨g, (i + 1) * 7, none⟩, cap - (i + 1), by simp [Addr.add_lit], fun j u hu => ?_⟩
   rw [List.getElem?_drop] at hu
   have hj : (i + 1) * 7 + j < (k + 1) * 7 := by rw [← HX.out]; exact (List.getElem?_eq_some_iff.1 hu).1
   rw [Addr.add_lit]
   exact (World.ownsRow.cellAt h _ hj).trans hu
 rw [e2] at s2
 rw [e3] at s3
 rw [e4] at s4
 obtain ⟨sv, hsv⟩ : ∃ sv, sliced (some ⟨g, 0, none⟩) i (i + 1) (k + 1) 7 = sv := ⟨_, rfl⟩
 rw [hsv] at s1
 obtain ⟨W1, hr1, ho1, hg1⟩ := run_append_fits (P := Tryz.prog) w.drew B 31 31 55 i0 7 Tryz.underlying31 hi0 hz1 g i cap (xs.take (i * 7)) (owns_less (w := w.drew) h (by omega)) a3 (k + 1 - (i + 1)) c3 (xs.drop ((i + 1) * 7)) (by rw [List.length_drop, HX.out]; omega) hs3 (fun v hv => h1 v (List.mem_of_mem_drop hv)) (by omega)
 rw [show i + (k + 1 - (i + 1)) = k by omega] at hr1 ho1
 obtain ⟨cur1, hg2, _, _, _, hcs1, htk1⟩ := owns_block ho1
 have HGR : Hid (w.grownBy W1 (some g)) := ⟨hg1.os, hg1.tape, hg1.output, hg1.size, hg1.block⟩
 have HLIM : Hid (k * 7 + 7 ≤ cur1.size) := by show _ ≤ _; rw [hcs1]; exact (by omega : k * 7 + 7 = (k + 1) * 7) ▸ Nat.mul_le_mul_right _ hnc
 obtain ⟨cur2, hcl2, q1, q2⟩ := cleare W1 g (k * 7) (cap - k) cur1 hg2 HLIM.out
 have HO1 : Hid (W1.heap[g]? = some (.cells cur1 55 (0, 0))) := hg2
 have HT1 : Hid (cur1.toList.take (k * 7) = xs.take (i * 7) ++ xs.drop ((i + 1) * 7)) := htk1
 have HS1 : Hid (cur1.size = cap * 7) := hcs1
 have HCM : Hid (cap ≤ maxLen) := hcm
 have HBG : Hid (B ≤ g) := hBg
 have hne : ¬ ((i : Int) = (i : Int) + 1) := by omega
 have hnb : ((i : Int) == (i : Int) + 1) = false := by rw [beq_eq_false_iff_ne]; omega
 have HF : Hid ((W1.setRow g cur2).ownsRow B 55 7 (.slice (some ⟨g, 0, none⟩) k cap) k (xs.take (i * 7) ++ xs.drop ((i + 1) * 7)) ∧ w.grownBy (W1.setRow g cur2) (some g)) :=
  ⟨owns_of_block (setRow_heap W1 g cur1 cur2 55 (0, 0) HO1.out) HBG.out (by omega) HCM.out (q1.trans HS1.out) (q2.trans HT1.out), grownS_row2 HGR.out⟩
 clear h hg hcs htk hcm hBg hg2 hcs1 htk1 hg1 ho1 hs3 e2 e3 e4 hsv HO1 HT1 HS1 HGR HLIM HX ci ck q1 q2
 have mixed : Tryz.prog.follows Departure.mixedOrders = true := by kernel_rfl
 go_enter Tryz.func177, Tryz.ntmps177
 go_wp2
 go_region_law_o (refine step_append_run rfl _ _ 31 31 rfl (.slice (some ⟨g, 0, none⟩) i cap) (.slice (some a3) (k + 1 - (i + 1)) c3) (by simp [Act.eval, Act.put]) (by simp [Act.eval, Act.put]) hr1 ?_)
 go_wp2
 go_ret
 exact ⟨rfl, HF.out⟩
end Go.Proofs.YtnccenbkpocjgaaGreat
/- An event that is to be done is taken out. -/
namespace Go.Proofs.YtnccenbkpocjgaaGreat
open Go.RowKit Go.Shelf
theorem hidUUp {p : Prop} (h : p) : Hid p := h
attribute [local go_sem] Oper.semAt_some
theorem dele_n (B g n cap i : Nat) (xs : List Value) (w : World) (hi : i < n) (h1 : ∀ v ∈ xs, v.oneCell' = true) (h : w.ownsRow B 55 7 (.slice (some ⟨g, 0, none⟩) n cap) n xs) :
  Calls Tryz.prog 177 #[.slice (some ⟨g, 0, none⟩) n cap, .int .i64 (i : Int), .int .i64 ((i : Int) + 1)] w fun e w' =>
   e = .returned (.slice (some ⟨g, 0, none⟩) (n - 1) cap) ∧ w'.ownsRow B 55 7 (.slice (some ⟨g, 0, none⟩) (n - 1) cap) (n - 1) (xs.take (i * 7) ++ xs.drop ((i + 1) * 7)) ∧ w.grownBy w' (some g) := by
 obtain ⟨k, rfl⟩ : ∃ k, n = k + 1 := ⟨n - 1, by omega⟩
 exact dele_any B g k cap i xs w hi h1 h
theorem bkLow {n b : Nat} {w w' : World} {T : TypeId} {vs : Array Value} (h : Bk w b T vs) (hb : Below n w w') (hlt : b < n) : Bk w' b T vs := (hb.block b hlt).trans h
def UnpS (B D : Nat) (vr vp vt va vu : Value) (A1 A4 : Nat → Prop) (p : Pa) (u : List Ev) (i : Nat) (w W : World) : Prop :=
 ∃ vt', DoR B D W vr vp vt' va vu A1 A4 ⟨p.n, p.st, p.p, p.t.take i ++ p.t.drop (i + 1), p.a⟩ u ∧ Turns (fun k => k = D ∨ vt.ownBlock = some k) w W
def UnpR (B D : Nat) (vr vp vt va vu : Value) (A1 A4 : Nat → Prop) (p : Pa) (u : List Ev) (g : Int) (w w' : World) (r : Ending) : Prop :=
 (evO p.t g = none ∧ r = .returned (.bool false) ∧ Below w.heap.size w w') ∨ ∃ i, evO p.t g = some i ∧ r = .returned (.bool true) ∧ UnpS B D vr vp vt va vu A1 A4 p u i w w'
theorem UnpS.kept {B D : Nat} {vr vp vt va vu : Value} {A1 A4 : Nat → Prop} {p : Pa} {u : List Ev} {i : Nat} {w X Y : World} {row : Option Nat} (hA : ∀ q, A1 q ∨ A4 q → q < w.heap.size) (h : UnpS B D vr vp vt va vu A1 A4 p u i w X) (hg : X.grownBy Y row) (hr : ∀ r, row = some r → w.heap.size ≤ r ∧ ∃ o : Obj, X.heap[r]? = some o ∧ o.isCells = false) : UnpS B D vr vp vt va vu A1 A4 p u i w Y := by
 obtain ⟨vt', h1, h3⟩ := h
 have ht : Turns (fun q => row = some q) X Y := ⟨hg.os, hg.tape, hg.output, hg.size, fun q hq hn => hg.block q hq (fun e => hn e.symm)⟩
 refine ⟨vt', h1.kept ht (fun q hq => ⟨fun e => by have := hA q (.inl e); have := (hr q hq).1; omega, fun e => by have := hA q (.inr e); have := (hr q hq).1; omega, (hr q hq).2⟩), ⟨hg.os.trans h3.os, hg.tape.trans h3.tape, hg.output.trans h3.output, Nat.le_trans h3.size hg.size, fun q hq hn => (hg.block q (by have := h3.size; omega) (fun e => by have := (hr q e.symm).1; omega)).trans (h3.block q hq hn)⟩⟩
set_option maxRecDepth 100000 in
set_option maxHeartbeats 16000000 in
theorem unplan_any (B D : Nat) (vr vp vt va vu : Value) (A1 A4 : Nat → Prop) (p : Pa) (u : List Ev) (g : Int) (w : World) (hl : p.t.length ≤ 1048576) (hone : OneTag p.t) (h : DoR B D w vr vp vt va vu A1 A4 p u) :
  Calls Tryz.prog 126 #[.pointer (some ⟨D, 0, none⟩), .int .i64 g] w fun r w' => UnpR B D vr vp vt va vu A1 A4 p u g w w' r := by
 have HON : Hid (OneTag p.t) := hone
 obtain ⟨a5, c5, rfl⟩ := owns_slice h.cp.todo
 have HH := hidUUp h
 have hDl := h.blk.lt
 obtain ⟨a', cap', b, e', hbb, hI⟩ := ((RowF.of_owns (cellsL_length _) h.cp.todo).own.isD.isEvs).parts (by omega)
 cases e'
 have HA : Hid (∀ q, A1 q ∨ A4 q → q < w.heap.size) := fun q hq => hq.elim (fun h1 => (h.cp.d1 q h1).1.2) (fun h1 => (h.cp.d4 q h1).1.2)
 obtain ⟨Wc, hWc⟩ : ∃ Wc, (((w.alloc (.cells #[.pointer (some ⟨D, 0, none⟩)] 98)).alloc (.cells #[.int .i64 g] 3)).alloc (.cells #[.bool false] 4)).alloc (.cells #[.slice a5 p.t.length c5] 31) = Wc := ⟨_, rfl⟩
 have hB0 : Below w.heap.size w Wc := by rw [← hWc]; exact ((((Below.refl _ w).alloc (Nat.le_refl _) _).alloc (by simp) _).alloc (by simp; omega) _).alloc (by simp; omega) _
 have hsz : Wc.heap.size = w.heap.size + 4 := by rw [← hWc]; simp
 have cD : Bk Wc w.heap.size 98 #[.pointer (some ⟨D, 0, none⟩)] := by rw [← hWc]; exact (((Bk.new w _ _).alloc _).alloc _).alloc _
 have cL : Bk Wc (w.heap.size + 1) 3 #[.int .i64 g] := by rw [← hWc]; exact ((Bk.newAt (by simp) _ _).alloc _).alloc _
 have cR : Bk Wc (w.heap.size + 2) 4 #[.bool false] := by rw [← hWc]; exact (Bk.newAt (by simp) _ _).alloc _
 have cS : Bk Wc (w.heap.size + 3) 31 #[.slice a5 p.t.length c5] := by rw [← hWc]; exact Bk.newAt (by simp) _ _
 have HCD := hidUUp cD
 have HCL := hidUUp cL
 have HCR := hidUUp cR
 have HCS := hidUUp cS
 have HB0 := hidUUp hB0
 have HIE := hidUUp hI
 have HWc := hidUUp hWc
 have d5 : ((((w.alloc (.cells #[.pointer (some ⟨D, 0, none⟩)] 98)).alloc (.cells #[.int .i64 g] 3)).alloc (.cells #[.bool false] 4))).cell? ⟨D, 5, none⟩ = some (.slice a5 p.t.length c5) := (((h.blk.alloc _).alloc _).alloc _).cell (i := 5) rfl
 clear h hone hWc hB0 cD cL cR cS hI
 refine (callsIn_wide (n := 5)).1 ?_
 refine callsIn_of_wp_marks Tryz.func126 rfl trivial ?_ rfl
 simp only [Tryz.ntmps126, List.size_toArray, List.length_cons, List.length_nil, Nat.reduceAdd, Nat.reduceSub, Array.replicate_succ, Array.replicate_zero, List.push_toArray, List.append_toArray, List.nil_append, List.cons_append]
 gi_wp2_with (refine ⟨trivial, ?_⟩; gi_at_call 40; refine (callsIn_wide.2 (each_any _ _ _ _)).mono ?_; rintro e w' ⟨rfl, rfl⟩)
 clear d5
 simp only [HWc.out, Nat.add_assoc, Nat.reduceAdd]
 clear HWc
 refine wpIn_rangeFunc_ownH rfl (by omega) (gf := 93) (lb := #[.pointer (some ⟨w.heap.size + 3, 0, none⟩)]) rfl trivial (enters_of Tryz.func93 (by kernel_rfl) rfl)
  (each_stops Fence.wide 4 trivial rfl (by omega) (w.heap.size + 3) b a5 c5 p.t hl _ (by omega) (HCS.out.cell (i := 0) rfl) (HIE.out.imp id (fun ⟨off, e, h⟩ => ⟨off, e, h.below HB0.out hbb⟩))) Same2.trans (Same2.putObj (by omega) (by omega)) (Below.refl _ _) (fun _ => rfl)
  (fun pre W => (∀ x ∈ pre, (evAt p.t x.val).g ≠ g) ∧ Below (w.heap.size + 4) Wc W)
  (fun c pre W => (c = .ret ∧ W.cell? ⟨w.heap.size + 2, 0, none⟩ = some (.bool true)) ∧ ∃ x : Fin p.t.length, (evAt p.t x.val).g = g ∧ UnpS B D vr vp (.slice a5 p.t.length c5) va vu A1 A4 p u x.val w W)
  (OwnFrom.and (Own.from (fun s A B row hs hg hr => hs) _) (ownFrom_below (by omega) (by omega)))
  (fun c => OwnFrom.and (Own.from (fun s A B row hs hg hr => ⟨hs.1, cell_kept hs.2 hg hr⟩) _) (fun s A B row hs hg hr => by obtain ⟨x, h1, h2⟩ := hs; exact ⟨x, h1, h2.kept HA.out hg (fun r e => ⟨by have := (hr r e).1; omega, (hr r e).2⟩)⟩))
  ⟨by simp, by rw [← hsz]; exact Below.refl _ _⟩
  (fun x a' W => ∃ Bx, w.heap.size + 4 ≤ Bx ∧ Bx < W.heap.size ∧ Ev.In W Bx 0 (evAt p.t x.val) ∧ a' = { tmps := #[.pointer (some ⟨D, 0, none⟩), .int .i64 g, .pointer (some ⟨w.heap.size, 0, none⟩), .pointer (some ⟨w.heap.size + 1, 0, none⟩), .pointer (some ⟨w.heap.size + 2, 0, none⟩), .int .i64 ((x.val : Nat) : Int), .pointer (some ⟨Bx, 0, none⟩), .pointer (some ⟨D, 0, none⟩), .pointer (some ⟨D, 0, none⟩), .pointer (some ⟨D, 5, none⟩), .pointer (some ⟨D, 5, none⟩), .slice a5 p.t.length c5, .func (.func 93) #[] #[.pointer (some ⟨w.heap.size + 3, 0, none⟩)], .int .i64 ((x.val : Nat) : Int), (evAt p.t x.val).val, undef, undef, undef, undef, undef, undef, undef, undef, undef, undef, undef, undef, undef, undef, undef, undef, undef], defers := [] })
  (fun x a' s A B row hs hg hr => by obtain ⟨Bx, h1, h2, h3, h4⟩ := hs; exact ⟨Bx, h1, Nat.lt_of_lt_of_le h2 hg.size, h3.kept hg (fun r e => (hr r e).2), h4⟩) ?assign ?body ?done ?stop
 case assign =>
  rintro lp' pre x W K ⟨hp, hB⟩ hK
  gi_wp2
  have hz : w.heap.size + 4 ≤ W.heap.size := by have := hB.size; omega
  have hBW : Below W.heap.size W (W.alloc (.cells #[.int .i64 (evAt p.t x.val).t, .int .i64 (evAt p.t x.val).s, .int .i64 (evAt p.t x.val).q, .int .i64 (evAt p.t x.val).d, .int .i64 (evAt p.t x.val).k, .int .i64 (evAt p.t x.val).v, .int .i64 (evAt p.t x.val).g] 55)) := (Below.refl _ W).alloc (Nat.le_refl _) _
  exact hK _ _ ((KeepsOthers.alloc _ _).from _) (Same2.below hBW (by omega) (by omega)) ⟨hp, hB.trans (hBW.mono (by omega))⟩ ⟨W.heap.size, by omega, by simp, EvAt.new _ _ _ _ _ _ _ _ _, rfl⟩
 case body =>
  rintro lp' pre x a' W hlp _ ⟨hp, hB⟩ ⟨Bx, h1, h2, h3, rfl⟩ hlt
  have hz : w.heap.size + 4 ≤ W.heap.size := by have := hB.size; omega
  have hBc : Below w.heap.size w W := HB0.out.trans (hB.mono (by omega))
  obtain ⟨f0, f1, f2, f3, f4, f5, f6⟩ := h3.lits
  have HP := hidUUp hp
  have HB := hidUUp hB
  have HBc := hidUUp hBc
  have hl1 : W.cell? ⟨w.heap.size + 1, 0, none⟩ = some (.int .i64 g) := (hB.cell (p := ⟨w.heap.size + 1, 0, none⟩) (by simp)).trans (HCL.out.cell (i := 0) rfl)
  clear hp hB h3 hBc
  by_cases hd : (evAt p.t x.val).g = g
  ·have HD := hidUUp hd
   rw [hd] at f6
   clear hd
   obtain ⟨i, hxi⟩ : ∃ i, x.val = i := ⟨_, rfl⟩
   have HXI : Hid (x.val = i) := hxi
   have hil : i < p.t.length := hxi ▸ x.isLt
   have hi63 : (i : Int) + 1 ≤ 9223372036854775807 := by omega
   have HHW := hidUUp (HH.out.below HBc.out)
   obtain ⟨g5, rfl⟩ : ∃ g5, a5 = some ⟨g5, 0, none⟩ := by
    rcases HH.out.cp.todo.2 with ⟨e, _⟩ | ⟨g6, cap, cur, e, _⟩
    ·exact absurd (Value.slice.inj e).2.1 (by omega)
    ·cases e; exact ⟨g6, rfl⟩
   have HD3 := hidUUp HHW.out.blk
   have HO3 := hidUUp HHW.out.cp.todo
   have HB3 := hidUUp (bkLow HCD.out HB.out (by omega))
   have HR3 := hidUUp (bkLow HCR.out HB.out (by omega))
   gi_wp2
   rw [hxi]
   clear hxi
   refine wpIn_only (wpIn_region_z 13 (fun W => W.cell? ⟨w.heap.size, 0, none⟩ = some (.pointer (some ⟨D, 0, none⟩)) ∧ W.cell? ⟨D, 5, none⟩ = some (.slice (some ⟨g5, 0, none⟩) p.t.length c5)) (openRound lp') (only_out _) (by kernel_rfl) (by kernel_rfl) ⟨HB3.out.drew.cell rfl, HD3.out.drew.cell rfl⟩ (fun hHeld => ?_))
   refine wpAnyZ_take (i := 0) (oi := { dst := some 19, op := Op.load 98 (Operand.tmp 2), type := 98, pos := _, after := _, guard := none }) (v := .pointer (some ⟨D, 0, none⟩)) 0 [] rfl (by kernel_rfl) (by kernel_rfl) (by kernel_rfl) (by kernel_rfl) (by kernel_rfl) (fun _ _ _ h => nomatch h.1) (Or.inl ⟨by rfl, ?_⟩) (by assumption) ?_
   ·intro wX hSw
    try dsimp only at hSw
    go_simp
    try exact IntWalk.i64_in _ (by omega)
   try simp only [Act.put, List.setIfInBounds_toArray, List.set_cons_zero, List.set_cons_succ]
   refine wpAnyZ_take (i := 1) (oi := { dst := some 20, op := Op.load 98 (Operand.tmp 2), type := 98, pos := _, after := _, guard := none }) (v := .pointer (some ⟨D, 0, none⟩)) 1 [] rfl (by kernel_rfl) (by kernel_rfl) (by kernel_rfl) (by kernel_rfl) (by kernel_rfl) (fun _ _ _ h => nomatch h.1) (Or.inl ⟨by rfl, ?_⟩) (by assumption) ?_
   ·intro wX hSw
    try dsimp only at hSw
    go_simp
    try exact IntWalk.i64_in _ (by omega)
   try simp only [Act.put, List.setIfInBounds_toArray, List.set_cons_zero, List.set_cons_succ]
   refine wpAnyZ_take (i := 2) (oi := { dst := some 21, op := Op.nilCheck (Operand.tmp 20), type := 0, pos := _, after := _, guard := none }) (v := .pointer (some ⟨D, 0, none⟩)) 2 [] rfl (by kernel_rfl) (by kernel_rfl) (by kernel_rfl) (by kernel_rfl) (by kernel_rfl) (fun _ _ _ h => nomatch h.1) (Or.inl ⟨by rfl, ?_⟩) (by assumption) ?_
   ·intro wX hSw
    try dsimp only at hSw
    go_simp
    try exact IntWalk.i64_in _ (by omega)
   try simp only [Act.put, List.setIfInBounds_toArray, List.set_cons_zero, List.set_cons_succ]
   refine wpAnyZ_take (i := 3) (oi := { dst := some 22, op := Op.fieldAddr 157 (Operand.tmp 21) 3, type := 0, pos := _, after := _, guard := none }) (v := .pointer (some ⟨D, 5, none⟩)) 3 [] rfl (by kernel_rfl) (by kernel_rfl) (by kernel_rfl) (by kernel_rfl) (by kernel_rfl) (fun _ _ _ h => nomatch h.1) (Or.inl ⟨by rfl, ?_⟩) (by assumption) ?_
   ·intro wX hSw
    try dsimp only at hSw
    go_simp
    try exact IntWalk.i64_in _ (by omega)
   try simp only [Act.put, List.setIfInBounds_toArray, List.set_cons_zero, List.set_cons_succ]
   refine wpAnyZ_take (i := 4) (oi := { dst := some 23, op := Op.fieldAddr 155 (Operand.tmp 22) 0, type := 0, pos := _, after := _, guard := none }) (v := .pointer (some ⟨D, 5, none⟩)) 4 [] rfl (by kernel_rfl) (by kernel_rfl) (by kernel_rfl) (by kernel_rfl) (by kernel_rfl) (fun _ _ _ h => nomatch h.1) (Or.inl ⟨by rfl, ?_⟩) (by assumption) ?_
   ·intro wX hSw
    try dsimp only at hSw
    go_simp
    try exact IntWalk.i64_in _ (by omega)
   try simp only [Act.put, List.setIfInBounds_toArray, List.set_cons_zero, List.set_cons_succ]
   refine wpAnyZ_take (i := 5) (oi := { dst := some 24, op := Op.load 31 (Operand.tmp 23), type := 31, pos := _, after := _, guard := none }) (v := .slice (some ⟨g5, 0, none⟩) p.t.length c5) 5 [] rfl (by kernel_rfl) (by kernel_rfl) (by kernel_rfl) (by kernel_rfl) (by kernel_rfl) (fun _ _ _ h => nomatch h.1) (Or.inl ⟨by rfl, ?_⟩) (by assumption) ?_
   ·intro wX hSw
    try dsimp only at hSw
    go_simp
    try exact IntWalk.i64_in _ (by omega)
   try simp only [Act.put, List.setIfInBounds_toArray, List.set_cons_zero, List.set_cons_succ]
   refine wpAnyZ_take (i := 6) (oi := { dst := some 25, op := Op.move (Operand.tmp 5), type := 3, pos := _, after := _, guard := none }) (v := .int .i64 (i : Int)) 6 [] rfl (by kernel_rfl) (by kernel_rfl) (by kernel_rfl) (by kernel_rfl) (by kernel_rfl) (fun _ _ _ h => nomatch h.1) (Or.inl ⟨by rfl, ?_⟩) (by assumption) ?_
   ·intro wX hSw
    try dsimp only at hSw
    go_simp
    try exact IntWalk.i64_in _ (by omega)
   try simp only [Act.put, List.setIfInBounds_toArray, List.set_cons_zero, List.set_cons_succ]
   refine wpAnyZ_take (i := 7) (oi := { dst := some 26, op := Op.move (Operand.tmp 5), type := 3, pos := _, after := _, guard := none }) (v := .int .i64 (i : Int)) 7 [] rfl (by kernel_rfl) (by kernel_rfl) (by kernel_rfl) (by kernel_rfl) (by kernel_rfl) (fun _ _ _ h => nomatch h.1) (Or.inl ⟨by rfl, ?_⟩) (by assumption) ?_
   ·intro wX hSw
    try dsimp only at hSw
    go_simp
    try exact IntWalk.i64_in _ (by omega)
   try simp only [Act.put, List.setIfInBounds_toArray, List.set_cons_zero, List.set_cons_succ]
   refine wpAnyZ_take (i := 8) (oi := { dst := some 27, op := Op.binOp BinOp.add 3 (Operand.tmp 26) (Operand.const (Value.int IntKind.i64 1)) 3, type := 3, pos := _, after := _, guard := none }) (v := .int .i64 ((i : Int) + 1)) 8 [] rfl (by kernel_rfl) (by kernel_rfl) (by kernel_rfl) (by kernel_rfl) (by kernel_rfl) (fun _ _ _ h => nomatch h.1) (Or.inl ⟨by rfl, ?_⟩) (by assumption) ?_
   ·intro wX hSw
    try dsimp only at hSw
    go_simp
    try exact IntWalk.i64_in _ (by omega)
   try simp only [Act.put, List.setIfInBounds_toArray, List.set_cons_zero, List.set_cons_succ]
   refine wpAnyZ_ready (rs := [9]) (by kernel_rfl) (by simp) ?_
   refine AllReadyZ.cons (o := { dst := some 28, op := Op.call { callee := Callee.value (Operand.func 177), args := #[Operand.tmp 24, Operand.tmp 25, Operand.tmp 27], argTypes := #[31, 3, 3] }, type := 31, pos := _, after := _, guard := none }) rfl (fun K hK => ?_) AllReadyZ.nil
   go_simp
   refine (dele_n B g5 p.t.length c5 i (cellsL p.t) W.drew hil (cellsL_one _) HO3.out.drew).mono ?_
   rintro r w2 ⟨rfl, ho, hgr⟩
   have ht2 := grown_turns hgr
   have HT2 := hidUUp ht2
   have HB4 := hidUUp (HB3.out.drew.turns ht2 (fun e1 => owns_ne HO3.out HB3.out (by decide) e1))
   have HD4 := hidUUp (HD3.out.drew.turns ht2 (fun e1 => owns_ne HO3.out HD3.out (by decide) e1))
   have HO4 := hidUUp ho
   clear ho hgr ht2
   try go_simp
   refine hK.out _ _ ⟨HB4.out.cell rfl, HD4.out.cell rfl⟩ (fun hHeld => ?_)
   clear hK K
   try simp only [Act.put, List.setIfInBounds_toArray, List.set_cons_zero, List.set_cons_succ]
   refine wpAnyZ_take (i := 10) (oi := { dst := some 29, op := Op.nilCheck (Operand.tmp 19), type := 0, pos := _, after := _, guard := none }) (v := .pointer (some ⟨D, 0, none⟩)) 12 [11, 10] rfl (by kernel_rfl) (by kernel_rfl) (by kernel_rfl) (by kernel_rfl) (by kernel_rfl) (fun _ _ _ h => nomatch h.1) (Or.inl ⟨by rfl, ?_⟩) (by assumption) ?_
   ·intro wX hSw
    try dsimp only at hSw
    go_simp
    try exact IntWalk.i64_in _ (by omega)
   try simp only [Act.put, List.setIfInBounds_toArray, List.set_cons_zero, List.set_cons_succ]
   refine wpAnyZ_take (i := 11) (oi := { dst := some 30, op := Op.fieldAddr 157 (Operand.tmp 29) 3, type := 0, pos := _, after := _, guard := none }) (v := .pointer (some ⟨D, 5, none⟩)) 12 [11] rfl (by kernel_rfl) (by kernel_rfl) (by kernel_rfl) (by kernel_rfl) (by kernel_rfl) (fun _ _ _ h => nomatch h.1) (Or.inl ⟨by rfl, ?_⟩) (by assumption) ?_
   ·intro wX hSw
    try dsimp only at hSw
    go_simp
    try exact IntWalk.i64_in _ (by omega)
   try simp only [Act.put, List.setIfInBounds_toArray, List.set_cons_zero, List.set_cons_succ]
   refine wpAnyZ_take (i := 12) (oi := { dst := some 31, op := Op.fieldAddr 155 (Operand.tmp 30) 0, type := 0, pos := _, after := _, guard := none }) (v := .pointer (some ⟨D, 5, none⟩)) 12 [] rfl (by kernel_rfl) (by kernel_rfl) (by kernel_rfl) (by kernel_rfl) (by kernel_rfl) (fun _ _ _ h => nomatch h.1) (Or.inl ⟨by rfl, ?_⟩) (by assumption) ?_
   ·intro wX hSw
    try dsimp only at hSw
    go_simp
    try exact IntWalk.i64_in _ (by omega)
   try simp only [Act.put, List.setIfInBounds_toArray, List.set_cons_zero, List.set_cons_succ]
   refine wpAnyZ_ready (rs := [13]) (by kernel_rfl) (by simp) ?_
   refine AllReadyZ.last (o := { dst := none, op := Op.store 31 (Operand.tmp 31) (Operand.tmp 28), type := 0, pos := _, after := _, guard := none }) rfl (fun K hK => ?_)
   have q5 := HD4.out.cell (i := 5) rfl
   have qf := HD4.out.free
   obtain ⟨X5, hX5⟩ : ∃ X5, w2.setCell ⟨D, 5, none⟩ (.slice (some ⟨g5, 0, none⟩) (p.t.length - 1) c5) = X5 := ⟨_, rfl⟩
   have hP := HD4.out.put 5 (.slice (some ⟨g5, 0, none⟩) (p.t.length - 1) c5)
   have ht := put1_turns w2 D 5 (.slice (some ⟨g5, 0, none⟩) (p.t.length - 1) c5)
   rw [hX5] at hP ht
   have HX5 : Hid _ := hX5
   have HD5 := hidUUp hP
   have HT5 := hidUUp ht
   clear hX5 hP ht
   go_simp
   clear q5 qf
   rw [HX5.out]
   refine hK.out _ _ ?_
   clear hK K
   try simp only [Act.put, List.setIfInBounds_toArray, List.set_cons_zero, List.set_cons_succ]
   refine wpAnyZ_done (by kernel_rfl) ?_ _
   clear hHeld
   refine ⟨rfl, ?_⟩
   have hT2 : Turns (fun q => (Value.slice (some ⟨g5, 0, none⟩) p.t.length c5).ownBlock = some q) W w2 := (Turns.of_below (Below.refl _ W).drew).trans HT2.out
   have hT5 : Turns (fun q => q = D ∨ (Value.slice (some ⟨g5, 0, none⟩) p.t.length c5).ownBlock = some q) W X5 := (hT2.mono (fun q e1 => .inr e1)).trans (HT5.out.mono (fun q e1 => .inl e1))
   have hOx : X5.ownsRow B 55 7 (.slice (some ⟨g5, 0, none⟩) (p.t.length - 1) c5) (p.t.take i ++ p.t.drop (i + 1)).length (cellsL (p.t.take i ++ p.t.drop (i + 1))) := by
    have h9 := owns_turns HO4.out HT5.out (fun k hk e1 => owns_ne HO4.out HD4.out (by decide) (e1 ▸ hk))
    rw [(cellsL_cut p.t i).1, (cellsL_cut p.t (i + 1)).2, ← cellsL_append] at h9
    have hlen : (p.t.take i ++ p.t.drop (i + 1)).length = p.t.length - 1 := by rw [List.length_append, List.length_take, List.length_drop]; omega
    rw [hlen]
    exact h9
   have hDo : DoR B D X5 vr vp (.slice (some ⟨g5, 0, none⟩) (p.t.length - 1) c5) va vu A1 A4 ⟨p.n, p.st, p.p, p.t.take i ++ p.t.drop (i + 1), p.a⟩ u := HHW.out.setT HD5.out hOx (.inl rfl) hT5
   have hRc : Bk X5 (w.heap.size + 2) 4 #[.bool false] := HR3.out.turns hT5 (fun e1 => e1.elim (fun e2 => by omega) (fun e2 => by have := owns_lt HH.out.cp.todo e2; omega))
   have hsX := hT5.size
   have HDo := hidUUp hDo
   have HT9 := hidUUp hT5
   have rc := hRc.cell (i := 0) rfl
   have rf := hRc.free 0
   have HRc := hidUUp hRc
   clear hT2 hT5 hOx hDo hRc
   gi_wp2
   obtain ⟨X6, hX6⟩ : ∃ X6, X5.setCell ⟨w.heap.size + 2, 0, none⟩ (.bool true) = X6 := ⟨_, rfl⟩
   have ht6 := put1_turns X5 (w.heap.size + 2) 0 (.bool true)
   have hP6 := HRc.out.put 0 (.bool true)
   simp only [hX6] at ht6 hP6 ⊢
   have hsX6 := ht6.size
   have ht9 : Turns (fun q => (q = D ∨ (Value.slice (some ⟨g5, 0, none⟩) p.t.length c5).ownBlock = some q) ∨ q = w.heap.size + 2) W X6 := (HT9.out.mono (fun q e1 => .inl e1)).trans (ht6.mono (fun q e1 => .inr e1))
   refine ⟨(keepsOthers_of_turns ht9 (fun q o hs ho => ?_)).from _, ⟨rfl, hP6.cell (i := 0) rfl⟩, x, HD.out, .slice (some ⟨g5, 0, none⟩) (p.t.length - 1) c5, ?_, ?_⟩
   ·rcases hs with (e1 | e1) | e1
    ·subst e1; exact bk_cells HHW.out.blk ho
    ·exact row_cells HHW.out.cp.todo e1 ho
    ·subst e1; exact bk_cells HR3.out ho
   ·rw [HXI.out]
    refine ⟨HDo.out.cp.turns ht6 (fun k hk => ⟨fun e1 => by have := HA.out k (.inl e1); omega, fun e1 => by have := HA.out k (.inr e1); omega, fun e1 => by have := owns_lt HH.out.cp.todo e1; omega, fun e1 => by have := owns_lt HH.out.cp.antis e1; omega⟩), owns_turns HDo.out.und ht6 (fun k hk e1 => by have := owns_lt HH.out.und hk; omega), HDo.out.blk.turns ht6 (by omega), HDo.out.du, HDo.out.dD, HDo.out.lo⟩
   ·exact ⟨(ht9.os).trans HBc.out.os, ht9.tape.trans HBc.out.tape, ht9.output.trans HBc.out.output, Nat.le_trans HBc.out.size ht9.size, fun k hk hn => (ht9.block k (by omega) (fun e1 => e1.elim hn (fun e2 => by omega))).trans (HBc.out.block k hk)⟩
  ·have HD := hidUUp hd
   have hdb : ((evAt p.t x.val).g == g) = false := by rw [beq_eq_false_iff_ne]; exact hd
   gi_wp2
   exact ⟨(keepsOthers_of_below (Below.refl _ _)).from _, Same2.refl _ _ _, fun y hy => (List.mem_append.1 hy).elim (HP.out y) (fun e => by simp at e; subst e; exact HD.out), HB.out⟩
 case done =>
  rintro E ys W hE rfl ⟨hp, hB⟩ hK
  have HP := hidUUp hp
  have hc : Bk W (w.heap.size + 2) 4 #[.bool false] := bkLow HCR.out hB (by omega)
  have rc := hc.cell (i := 0) rfl
  have rf := hc.free 0
  clear hp
  gi_wp2
  have hK' := (KeepsOthers.setCell W ⟨w.heap.size + 2, 0, none⟩ (.bool false)).same E _ hK rfl
  refine ⟨by simp, .inl ⟨_, _, rfl, run_takeDeferred hK', ?_⟩⟩
  have hc5 := cell_kept (World.cell?_setCell_same' W ⟨w.heap.size + 2, 0, none⟩ (.bool false) (by rw [rc]; rfl)) (grownBy_putObj' _ E (.deferred none)) (fun r e => by cases e; exact ⟨_, hK', rfl⟩)
  refine ⟨.bool false, ?_, .inl ⟨evO_none (fun i hi e => HP.out ⟨i, hi⟩ (List.mem_finRange _) e), rfl, ((HB0.out.trans (hB.mono (by omega))).setCell (p := ⟨w.heap.size + 2, 0, none⟩) (by simp) _).trans (belowK_b (w := w) (Nat.le_refl _) _ E _ _ (by omega) hK' rfl rfl)⟩⟩
  simp [results, Tryz.f126, go_sem, hc5]
 case stop =>
  rintro E c pre W hE _ ⟨⟨rfl, hc⟩, x, hx, hS⟩ hK
  have HX := hidUUp hx
  clear hx
  gi_wp2
  refine ⟨by simp, .inl ⟨_, _, rfl, run_takeDeferred hK, ?_⟩⟩
  have hc5 := cell_kept hc (grownBy_putObj' _ E (.deferred none)) (fun r e => by cases e; exact ⟨_, hK, rfl⟩)
  refine ⟨.bool true, ?_, .inr ⟨x.val, evO_some HON.out ⟨x.isLt, HX.out⟩, rfl, hS.kept HA.out (grownBy_putObj' _ E (.deferred none)) (fun r e => by cases e; exact ⟨by omega, _, hK, rfl⟩)⟩⟩
  simp [results, Tryz.f126, go_sem, hc5]
end Go.Proofs.YtnccenbkpocjgaaGreat
