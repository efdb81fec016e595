/- The specification's PartNew. -/
import Derived.Test.YtnccenbkpocjgaaGreatExactPartNewG37
import Derived.Test.YtnccenbkpocjgaaGreatExactPartNewLPOwn
import Derived.Test.YtnccenbkpocjgaaGreatExactPartNewG27
namespace Go.Proofs.YtnccenbkpocjgaaGreat
open Go.RowKit
def newOk (m : Md) (lp : Int) : Bool := m.ok && isPart m lp
def newA (m : Md) (lp : Int) : Pa := if newOk m lp = true then newP m lp.toNat else Pa.none
def AnsN (w w' : World) (r : Ending) (a : Pa) (b : Bool) : Prop := ∃ y, r = .returned (.tuple #[y, .bool b]) ∧ Below w.heap.size w w' ∧ PartF (fun k => w.heap.size ≤ k ∧ k < w'.heap.size) w' y a
theorem new_not {m : Md} {lp : Int} (h : newOk m lp = false) : newA m lp = Pa.none ∧ newOk m lp = false := ⟨by unfold newA; rw [if_neg (by rw [h]; simp)], h⟩
theorem new_yes {m : Md} {lp : Int} (h : newOk m lp = true) : newA m lp = newP m lp.toNat ∧ newOk m lp = true := ⟨by unfold newA; rw [if_pos h], h⟩
theorem ok_six {m : Md} (h : m.ok = true) : m.e.length ≤ 6 := by
 rw [ok_parts] at h
 simp only [Bool.and_eq_true, decide_eq_true_eq] at h
 omega
theorem newP_wt {m : Md} {lp : Nat} (h : m.e.length ≤ 6) : (newP m lp).wt ≤ 1000 := by
 have h1 := newL_len lp m.e
 unfold Pa.wt newP firstS
 dsimp only
 rw [ints_wt, evs_wt, ints_wt, pastsD_wt]
 simp [sumL]
 omega
set_option maxRecDepth 100000 in
set_option maxHeartbeats 16000000 in
theorem sPartNew (x : Value) (m : Md) (lp : Int) (w : World) (hs : SmallM m) (h : IsM w x m) :
  Calls Tryz.prog 8 #[x, .int .i64 lp] w fun r w' => AnsN w w' r (newA m lp) (newOk m lp) := by
 have HM : Hid (IsM w x m) := h
 have HS : Hid (SmallM m) := hs
 obtain ⟨vi, vh, vs, rfl, ⟨ai, ci, rfl, _⟩, ⟨ah, ch, rfl, _⟩, ⟨ae, ce, rfl, _⟩⟩ := h
 obtain ⟨W0, hW0⟩ : ∃ W0, (w.alloc (.cells #[.int .i64 m.n, .int .i64 m.s, .slice ai m.i.length ci, .slice ah m.h.length ch, .slice ae m.e.length ce, .int .i64 m.z] 38)).alloc (.cells #[.int .i64 0, .slice none 0 0, .int .i64 0, .int .i64 0, .slice none 0 0, .slice none 0 0, .slice none 0 0] 33) = W0 := ⟨_, rfl⟩
 have HB0 : Hid (Below w.heap.size w W0) := by rw [← hW0]; exact ((Below.refl _ w).alloc (Nat.le_refl _) _).alloc (by simp) _
 have BX : Hid (Bk W0 w.heap.size 38 #[.int .i64 m.n, .int .i64 m.s, .slice ai m.i.length ci, .slice ah m.h.length ch, .slice ae m.e.length ce, .int .i64 m.z]) := by rw [← hW0]; exact (Bk.new w _ _).alloc _
 have BZ : Hid (Bk W0 (w.heap.size + 1) 33 #[.int .i64 0, .slice none 0 0, .int .i64 0, .int .i64 0, .slice none 0 0, .slice none 0 0, .slice none 0 0]) := by rw [← hW0]; exact Bk.newAt (by simp) _ _
 have hz0 : W0.heap.size = w.heap.size + 1 + 1 := by rw [← hW0]; simp
 clear hs
 have x0 := BX.out.cell (i := 0) rfl
 have x1 := BX.out.cell (i := 1) rfl
 have x2 := BX.out.cell (i := 2) rfl
 have x3 := BX.out.cell (i := 3) rfl
 have x4 := BX.out.cell (i := 4) rfl
 have x5 := BX.out.cell (i := 5) rfl
 go_enter Tryz.func8, Tryz.ntmps8
 go_wp2_with fail
 clear hW0 x0 x1 x2 x3 x4 x5
 refine (sModM _ m _ HS.out (HM.out.below HB0.out)).mono ?_
 rintro r w1 ⟨rfl, hb⟩
 have HB1 : Hid (Below w.heap.size w w1) := HB0.out.trans (hb.mono HB0.out.size)
 have X1 : Hid (Bk w1 w.heap.size 38 #[.int .i64 m.n, .int .i64 m.s, .slice ai m.i.length ci, .slice ah m.h.length ch, .slice ae m.e.length ce, .int .i64 m.z]) := BX.out.below hb
 have Z1 : Hid (Bk w1 (w.heap.size + 1) 33 #[.int .i64 0, .slice none 0 0, .int .i64 0, .int .i64 0, .slice none 0 0, .slice none 0 0, .slice none 0 0]) := BZ.out.below hb
 have hs1 : W0.heap.size ≤ w1.heap.size := hb.size
 clear hb BX BZ
 cases hok : m.ok
 case false =>
  have HNO : Hid (newOk m lp = false) := by (show newOk m lp = false; unfold newOk; rw [hok]; rfl)
  clear hok
  have z0 := Z1.out.cell (i := 0) rfl
  have z1 := Z1.out.cell (i := 1) rfl
  have z2 := Z1.out.cell (i := 2) rfl
  have z3 := Z1.out.cell (i := 3) rfl
  have z4 := Z1.out.cell (i := 4) rfl
  have z5 := Z1.out.cell (i := 5) rfl
  have z6 := Z1.out.cell (i := 6) rfl
  have zf := Z1.out.free
  obtain ⟨X5, hX5⟩ : ∃ X5, put7s w1 (w.heap.size + 1) (.int .i64 0) (.slice none 0 0) (.int .i64 0) (.int .i64 0) (.slice none 0 0) (.slice none 0 0) (.slice none 0 0) = X5 := ⟨_, rfl⟩
  have hP := Z1.out.put7s (.int .i64 0) (.slice none 0 0) (.int .i64 0) (.int .i64 0) (.slice none 0 0) (.slice none 0 0) (.slice none 0 0)
  have ht := put7s_turns w1 (w.heap.size + 1) (.int .i64 0) (.slice none 0 0) (.int .i64 0) (.int .i64 0) (.slice none 0 0) (.slice none 0 0) (.slice none 0 0)
  rw [hX5] at hP ht
  unfold put7s at hX5
  have HX5 : Hid _ := hX5
  have HP5 : Hid (Bk X5 (w.heap.size + 1) 33 #[.int .i64 0, .slice none 0 0, .int .i64 0, .int .i64 0, .slice none 0 0, .slice none 0 0, .slice none 0 0]) := hP
  have HT5 : Hid (Turns (fun q => q = (w.heap.size + 1)) w1 X5) := ht
  clear hX5 hP ht
  go_wp2
  try rw [HX5.out]
  have t0 := HP5.out.cell (i := 0) rfl
  have t1 := HP5.out.cell (i := 1) rfl
  have t2 := HP5.out.cell (i := 2) rfl
  have t3 := HP5.out.cell (i := 3) rfl
  have t4 := HP5.out.cell (i := 4) rfl
  have t5 := HP5.out.cell (i := 5) rfl
  have t6 := HP5.out.cell (i := 6) rfl
  refine bodyPost_ret (v := .tuple #[.agg #[.int .i64 0, .slice none 0 0, .int .i64 0, .int .i64 0, .slice none 0 0, .slice none 0 0, .slice none 0 0], .bool false]) (by simp [results, Tryz.results8, go_sem, t0, t1, t2, t3, t4, t5, t6]) rfl ?_
  have hn := new_not HNO.out
  rw [hn.1, hn.2]
  exact ⟨_, rfl, HB1.out.trans (HT5.out.to_below (fun q hq => by omega) HB1.out.size), none_partF _ _⟩
 have HOK : Hid (m.ok = true) := hok
 clear hok
 by_cases h1 : lp < 0
 ·have HNO : Hid (newOk m lp = false) := by (show newOk m lp = false; unfold newOk isPart; rw [decide_eq_false (by omega : ¬ 0 ≤ lp)]; simp)
  have hd1 : decide (lp < 0) = true := by simpa using h1
  have x0 := X1.out.cell (i := 0) rfl
  clear h1
  have z0 := Z1.out.cell (i := 0) rfl
  have z1 := Z1.out.cell (i := 1) rfl
  have z2 := Z1.out.cell (i := 2) rfl
  have z3 := Z1.out.cell (i := 3) rfl
  have z4 := Z1.out.cell (i := 4) rfl
  have z5 := Z1.out.cell (i := 5) rfl
  have z6 := Z1.out.cell (i := 6) rfl
  have zf := Z1.out.free
  obtain ⟨X5, hX5⟩ : ∃ X5, put7s w1 (w.heap.size + 1) (.int .i64 0) (.slice none 0 0) (.int .i64 0) (.int .i64 0) (.slice none 0 0) (.slice none 0 0) (.slice none 0 0) = X5 := ⟨_, rfl⟩
  have hP := Z1.out.put7s (.int .i64 0) (.slice none 0 0) (.int .i64 0) (.int .i64 0) (.slice none 0 0) (.slice none 0 0) (.slice none 0 0)
  have ht := put7s_turns w1 (w.heap.size + 1) (.int .i64 0) (.slice none 0 0) (.int .i64 0) (.int .i64 0) (.slice none 0 0) (.slice none 0 0) (.slice none 0 0)
  rw [hX5] at hP ht
  unfold put7s at hX5
  have HX5 : Hid _ := hX5
  have HP5 : Hid (Bk X5 (w.heap.size + 1) 33 #[.int .i64 0, .slice none 0 0, .int .i64 0, .int .i64 0, .slice none 0 0, .slice none 0 0, .slice none 0 0]) := hP
  have HT5 : Hid (Turns (fun q => q = (w.heap.size + 1)) w1 X5) := ht
  clear hX5 hP ht
  go_wp2
  try rw [HX5.out]
  have t0 := HP5.out.cell (i := 0) rfl
  have t1 := HP5.out.cell (i := 1) rfl
  have t2 := HP5.out.cell (i := 2) rfl
  have t3 := HP5.out.cell (i := 3) rfl
  have t4 := HP5.out.cell (i := 4) rfl
  have t5 := HP5.out.cell (i := 5) rfl
  have t6 := HP5.out.cell (i := 6) rfl
  refine bodyPost_ret (v := .tuple #[.agg #[.int .i64 0, .slice none 0 0, .int .i64 0, .int .i64 0, .slice none 0 0, .slice none 0 0, .slice none 0 0], .bool false]) (by simp [results, Tryz.results8, go_sem, t0, t1, t2, t3, t4, t5, t6]) rfl ?_
  have hn := new_not HNO.out
  rw [hn.1, hn.2]
  exact ⟨_, rfl, HB1.out.trans (HT5.out.to_below (fun q hq => by omega) HB1.out.size), none_partF _ _⟩
 have hd1 : decide (lp < 0) = false := by simpa using h1
 by_cases h2 : m.n ≤ lp
 ·have HNO : Hid (newOk m lp = false) := by (show newOk m lp = false; unfold newOk isPart; rw [decide_eq_false (by omega : ¬ lp < m.n)]; simp)
  have hd2 : decide (m.n ≤ lp) = true := by simpa using h2
  have x0 := X1.out.cell (i := 0) rfl
  clear h1 h2
  have z0 := Z1.out.cell (i := 0) rfl
  have z1 := Z1.out.cell (i := 1) rfl
  have z2 := Z1.out.cell (i := 2) rfl
  have z3 := Z1.out.cell (i := 3) rfl
  have z4 := Z1.out.cell (i := 4) rfl
  have z5 := Z1.out.cell (i := 5) rfl
  have z6 := Z1.out.cell (i := 6) rfl
  have zf := Z1.out.free
  obtain ⟨X5, hX5⟩ : ∃ X5, put7s w1 (w.heap.size + 1) (.int .i64 0) (.slice none 0 0) (.int .i64 0) (.int .i64 0) (.slice none 0 0) (.slice none 0 0) (.slice none 0 0) = X5 := ⟨_, rfl⟩
  have hP := Z1.out.put7s (.int .i64 0) (.slice none 0 0) (.int .i64 0) (.int .i64 0) (.slice none 0 0) (.slice none 0 0) (.slice none 0 0)
  have ht := put7s_turns w1 (w.heap.size + 1) (.int .i64 0) (.slice none 0 0) (.int .i64 0) (.int .i64 0) (.slice none 0 0) (.slice none 0 0) (.slice none 0 0)
  rw [hX5] at hP ht
  unfold put7s at hX5
  have HX5 : Hid _ := hX5
  have HP5 : Hid (Bk X5 (w.heap.size + 1) 33 #[.int .i64 0, .slice none 0 0, .int .i64 0, .int .i64 0, .slice none 0 0, .slice none 0 0, .slice none 0 0]) := hP
  have HT5 : Hid (Turns (fun q => q = (w.heap.size + 1)) w1 X5) := ht
  clear hX5 hP ht
  go_wp2
  try rw [HX5.out]
  have t0 := HP5.out.cell (i := 0) rfl
  have t1 := HP5.out.cell (i := 1) rfl
  have t2 := HP5.out.cell (i := 2) rfl
  have t3 := HP5.out.cell (i := 3) rfl
  have t4 := HP5.out.cell (i := 4) rfl
  have t5 := HP5.out.cell (i := 5) rfl
  have t6 := HP5.out.cell (i := 6) rfl
  refine bodyPost_ret (v := .tuple #[.agg #[.int .i64 0, .slice none 0 0, .int .i64 0, .int .i64 0, .slice none 0 0, .slice none 0 0, .slice none 0 0], .bool false]) (by simp [results, Tryz.results8, go_sem, t0, t1, t2, t3, t4, t5, t6]) rfl ?_
  have hn := new_not HNO.out
  rw [hn.1, hn.2]
  exact ⟨_, rfl, HB1.out.trans (HT5.out.to_below (fun q hq => by omega) HB1.out.size), none_partF _ _⟩
 have hd2 : decide (m.n ≤ lp) = false := by simpa using h2
 have HYES : Hid (newOk m lp = true) := by (show newOk m lp = true; unfold newOk isPart; rw [HOK.out, decide_eq_true (by omega : 0 ≤ lp), decide_eq_true (by omega : lp < m.n)]; rfl)
 have hin := ok_init HOK.out
 obtain ⟨q, rfl⟩ : ∃ q : Nat, lp = (q : Int) := ⟨lp.toNat, by omega⟩
 have hq : q < m.i.length := by omega
 have h6 := ok_six HOK.out
 have hx := fun (W : World) (hW : Below w.heap.size w W) => HM.out.below hW
 clear h1 h2
 have x0 := X1.out.cell (i := 0) rfl
 have x1 := X1.out.cell (i := 1) rfl
 have x2 := X1.out.cell (i := 2) rfl
 have x3 := X1.out.cell (i := 3) rfl
 have x4 := X1.out.cell (i := 4) rfl
 have x5 := X1.out.cell (i := 5) rfl
 go_wp2_with fail
 clear hd1 hd2 x0 x1 x2 x3 x4 x5
 refine (l4new_any _ m q w1 hq (by omega) (HM.out.below HB1.out)).mono ?_
 rintro r w2 ⟨⟨y, rfl, hy⟩, hb⟩
 obtain ⟨N, hN⟩ : ∃ N, newP m q = N := ⟨_, rfl⟩
 have HN : Hid (newP m q = N) := hN
 have HNW : Hid (N.wt ≤ 1048577) := hN ▸ Nat.le_trans (newP_wt h6) (by omega)
 rw [hN] at hy
 clear hN
 have HY : Hid (IsPart w2 y N) := hy
 have HB2 : Hid (Below w.heap.size w w2) := HB1.out.trans (hb.mono HB1.out.size)
 have hs2 : w1.heap.size ≤ w2.heap.size := hb.size
 have Z2 : Hid (Bk w2 (w.heap.size + 1) 33 #[.int .i64 0, .slice none 0 0, .int .i64 0, .int .i64 0, .slice none 0 0, .slice none 0 0, .slice none 0 0]) := Z1.out.below hb
 obtain ⟨v1, v4, v5, v6, rfl, _⟩ := hy
 clear hb Z1 X1
 go_wp2_with fail
 refine (l4own_any _ N w2 HNW.out HY.out).mono ?_
 rintro r w3 ⟨y3, rfl, hb, hF⟩
 have HB3 : Hid (Below w.heap.size w w3) := HB2.out.trans (hb.mono HB2.out.size)
 have hs3 : w2.heap.size ≤ w3.heap.size := hb.size
 have Z3 : Hid (Bk w3 (w.heap.size + 1) 33 #[.int .i64 0, .slice none 0 0, .int .i64 0, .int .i64 0, .slice none 0 0, .slice none 0 0, .slice none 0 0]) := Z2.out.below hb
 have HF : Hid (PartF (fun k => w2.heap.size ≤ k ∧ k < w3.heap.size) w3 y3 N) := hF
 obtain ⟨r1, s1, r4, s4, r5, s5, r6, s6, rfl⟩ := PartF.form hF
 clear hb hF Z2
 have z0 := Z3.out.cell (i := 0) rfl
 have z1 := Z3.out.cell (i := 1) rfl
 have z2 := Z3.out.cell (i := 2) rfl
 have z3 := Z3.out.cell (i := 3) rfl
 have z4 := Z3.out.cell (i := 4) rfl
 have z5 := Z3.out.cell (i := 5) rfl
 have z6 := Z3.out.cell (i := 6) rfl
 have zf := Z3.out.free
 obtain ⟨X5, hX5⟩ : ∃ X5, put7s w3 (w.heap.size + 1) (.int .i64 N.n) (.slice r1 N.st.r.length s1) (.int .i64 N.st.q) (.int .i64 N.st.d) (.slice r4 N.p.length s4) (.slice r5 N.t.length s5) (.slice r6 N.a.length s6) = X5 := ⟨_, rfl⟩
 have hP := Z3.out.put7s (.int .i64 N.n) (.slice r1 N.st.r.length s1) (.int .i64 N.st.q) (.int .i64 N.st.d) (.slice r4 N.p.length s4) (.slice r5 N.t.length s5) (.slice r6 N.a.length s6)
 have ht := put7s_turns w3 (w.heap.size + 1) (.int .i64 N.n) (.slice r1 N.st.r.length s1) (.int .i64 N.st.q) (.int .i64 N.st.d) (.slice r4 N.p.length s4) (.slice r5 N.t.length s5) (.slice r6 N.a.length s6)
 rw [hX5] at hP ht
 unfold put7s at hX5
 have HX5 : Hid _ := hX5
 have HP5 : Hid (Bk X5 (w.heap.size + 1) 33 #[.int .i64 N.n, .slice r1 N.st.r.length s1, .int .i64 N.st.q, .int .i64 N.st.d, .slice r4 N.p.length s4, .slice r5 N.t.length s5, .slice r6 N.a.length s6]) := hP
 have HT5 : Hid (Turns (fun q => q = (w.heap.size + 1)) w3 X5) := ht
 clear hX5 hP ht
 go_wp2
 try rw [HX5.out]
 have t0 := HP5.out.cell (i := 0) rfl
 have t1 := HP5.out.cell (i := 1) rfl
 have t2 := HP5.out.cell (i := 2) rfl
 have t3 := HP5.out.cell (i := 3) rfl
 have t4 := HP5.out.cell (i := 4) rfl
 have t5 := HP5.out.cell (i := 5) rfl
 have t6 := HP5.out.cell (i := 6) rfl
 refine bodyPost_ret (v := .tuple #[.agg #[.int .i64 N.n, .slice r1 N.st.r.length s1, .int .i64 N.st.q, .int .i64 N.st.d, .slice r4 N.p.length s4, .slice r5 N.t.length s5, .slice r6 N.a.length s6], .bool true]) (by simp [results, Tryz.results8, go_sem, t0, t1, t2, t3, t4, t5, t6]) rfl ?_
 have hn := new_yes HYES.out
 rw [hn.1, hn.2, Int.toNat_natCast, HN.out]
 have hsx := HT5.out.size
 exact ⟨_, rfl, HB3.out.trans (HT5.out.to_below (fun q hq => by omega) HB3.out.size), (HF.out.turns HT5.out (fun k hk e1 => by omega)).mono (fun k hk => ⟨by omega, by omega⟩)⟩
end Go.Proofs.YtnccenbkpocjgaaGreat
