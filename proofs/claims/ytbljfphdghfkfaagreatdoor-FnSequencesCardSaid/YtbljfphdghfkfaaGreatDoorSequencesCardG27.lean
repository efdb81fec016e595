/- LibI, LibPop, PopF -/
import Derived.Test.YtbljfphdghfkfaaGreatDoorSequencesCardG25
import Derived.Test.YtbljfphdghfkfaaGreatDoorSequencesCardLDownI
/- The pile's form. -/
namespace Go.Proofs.YtbljfphdghfkfaaGreatDoor
open Go.RowKit
theorem Pl.form {w : World} {B P : Nat} {v : Value} {l : List Ev} (h : Pl w B P v l) {n : Nat} (hl : l.length = n + 1) : ∃ g cap, v = .slice (some ⟨g, 0, none⟩) (n + 1) cap ∧ Row w B g cap l ∧ P ≠ g := by
 obtain ⟨g, cap, e, hr, hg⟩ := h.rowed (by omega)
 exact ⟨g, cap, by rw [e, hl], hr, hg⟩
theorem Pl.at {w : World} {B P g cap n : Nat} {l : List Ev} (hb : Boxed w P 163 (.slice (some ⟨g, 0, none⟩) n cap)) (hr : Row w B g cap l) (hl : l.length = n) (hB : B ≤ P) : Pl w B P (.slice (some ⟨g, 0, none⟩) n cap) l := by
 subst hl; exact ⟨hb, hr, hB⟩
end Go.Proofs.YtbljfphdghfkfaaGreatDoor

/- The library's Pop over a pile. -/
namespace Go.Proofs.YtbljfphdghfkfaaGreatDoor
open Go.RowKit
set_option maxRecDepth 100000 in
set_option maxHeartbeats 4000000 in
theorem libPop_any (B P g cap : Nat) (l : List Ev) (n : Nat) (w : World) (hn : l.length = n + 1) (h : Pl w B P (.slice (some ⟨g, 0, none⟩) (n + 1) cap) l) (hl : l.length ≤ 1048576) (hok : Kept (fun e => e.ok = true) l) :
  Calls Tryz.prog 85 #[pv P] w fun r w' => r = .returned (.iface 53 (evAt l 0).val) ∧ Pl w' B P (.slice (some ⟨g, 0, none⟩) n cap) (takeL l 0) ∧ Turns (fun b => b = P ∨ b = g) w w' := by
 have HN : Hid (l.length = n + 1) := hn
 have HBX : Hid (Boxed w P 163 (.slice (some ⟨g, 0, none⟩) (n + 1) cap)) := h.box
 obtain ⟨g', cap', hv, hR, hPg⟩ := h.form hn
 cases hv
 have hPw : P < w.heap.size := h.box.lt
 have HLO : Hid (B ≤ P) := h.low
 have HLN : Hid (Calls Tryz.prog 186 #[.pointer (some ⟨P, 0, none⟩)] w fun e w' => e = .returned (.int .i64 ((n : Int) + 1)) ∧ w' = w) := by
  have := len_any _ P (n + 1) cap w h.box.cell
  unfold Hid; simpa using this
 have HSW : Hid (Calls Tryz.prog 190 #[.pointer (some ⟨P, 0, none⟩), .int .i64 0, .int .i64 (n : Int)] w fun e w' => (∃ v, e = .returned v) ∧ Row w' B g cap (swp l 0 n) ∧ Turns (fun b => b = g) w w') :=
  swap_any B P g cap l 0 n w (by rw [hn]; exact h.box.cell) hPg hR (by omega) (by omega)
 have HO2 : Hid (Kept (fun e => e.ok = true) (swp l 0 n)) := (kept_swp (by omega) (by omega)).2 hok
 have hsl : (swp l 0 n).length = n + 1 := by rw [swp_length]; exact hn
 have HSL : Hid ((swp l 0 n).length = n + 1) := hsl
 have HPO : Hid ((downL (swp l 0 n) n 0).take n = takeL l 0 ∧ evAt (downL (swp l 0 n) n 0) n = evAt l 0) := by
  have := pop_same l (by omega)
  rw [hn, Nat.add_sub_cancel] at this
  exact this
 have hml := fun w => m_len P w
 have hms := fun w => m_swap P w
 have hmp := fun w => m_pop P w
 have hn1 : n ≤ 1048575 := by omega
 clear h hok hR hn hsl
 go_enter Tryz.func85, Tryz.ntmps85
 go_wp2_with fail
 refine HLN.out.mono ?_
 rintro r w' ⟨rfl, hw⟩
 have hw' := hw.symm
 clear hw
 subst hw'
 go_wp2_with fail
 refine HSW.out.mono ?_
 rintro r w1 ⟨⟨u1, rfl⟩, hr1, ht1⟩
 have HBX1 : Hid (Boxed w1 P 163 (.slice (some ⟨g, 0, none⟩) (n + 1) cap)) := (ht1.block P hPw hPg).trans HBX.out
 have HT1 : Hid (Turns (fun b => b = g) w w1) := ht1
 obtain ⟨bb, hbb⟩ : ∃ bb, decide (pickL (swp l 0 n) n 0 ≠ 0) = bb := ⟨_, rfl⟩
 have HD : Hid (Calls Tryz.prog 97 #[pv P, .int .i64 0, .int .i64 (n : Int)] w1 fun e w' => e = .returned (.bool bb) ∧ Row w' B g cap (downL (swp l 0 n) n 0) ∧ Turns (fun b => b = g) w1 w') :=
  down_any B P g cap (swp l 0 n) 0 n w1 (by have := HSL.out; omega) (by rw [HSL.out]; exact HBX1.out.cell) HBX1.out.lt hPg hr1 (by have := HSL.out; omega) (by have := HSL.out; omega) HO2.out bb hbb
 clear hr1 ht1 hbb HSW HLN
 go_wp2_with fail
 refine HD.out.mono ?_
 rintro r w2 ⟨rfl, hr2, ht2⟩
 have HT2 : Hid (Turns (fun b => b = g) w w2) := HT1.out.trans ht2
 have HBX2 : Hid (Boxed w2 P 163 (.slice (some ⟨g, 0, none⟩) (n + 1) cap)) := (ht2.block P HBX1.out.lt hPg).trans HBX1.out
 have hdl : (downL (swp l 0 n) n 0).length = n + 1 := by rw [downL_length]; exact HSL.out
 have hdd : downL (swp l 0 n) n 0 = takeL l 0 ++ [evAt l 0] := by
  refine ext_ev (by rw [hdl, List.length_append, takeL_length, HN.out]; simp) (fun j hj => ?_)
  rw [hdl] at hj
  have htl : (takeL l 0).length = n := by rw [takeL_length, HN.out]; rfl
  by_cases hjn : j = n
  ·subst hjn
   rw [HPO.out.2]
   have := evAt_last (takeL l 0) (evAt l 0)
   rw [htl] at this
   exact this.symm
  ·rw [evAt_left _ _ _ (by omega), ← HPO.out.1, evAt_take _ _ _ (by omega)]
 have HPP : Hid (Calls Tryz.prog 188 #[.pointer (some ⟨P, 0, none⟩)] w2 fun r w' => r = .returned (.iface 53 (.agg #[.int .i64 (evAt l 0).t, .int .i64 (evAt l 0).s, .int .i64 (evAt l 0).q, .int .i64 (evAt l 0).d, .int .i64 (evAt l 0).k, .int .i64 (evAt l 0).v, .int .i64 (evAt l 0).g])) ∧ Pl w' B P (.slice (some ⟨g, 0, none⟩) n cap) (takeL l 0) ∧ Turns (fun b => b = P) w2 w') := by
  have htl : (takeL l 0).length = n := by rw [takeL_length, HN.out]; rfl
  rw [hdd] at hr2
  have h9 := pop_any B P g cap (takeL l 0) (evAt l 0) w2 (by rw [htl]; exact Pl.at HBX2.out hr2 (by simp [htl]) HLO.out)
  rw [htl] at h9
  exact h9
 clear hr2 ht2 HD hdl hdd
 go_wp2_with fail
 refine HPP.out.mono ?_
 rintro r w3 ⟨rfl, hp3, ht3⟩
 have HP3 : Hid (Pl w3 B P (.slice (some ⟨g, 0, none⟩) n cap) (takeL l 0)) := hp3
 have HT3 : Hid (Turns (fun b => b = P ∨ b = g) w w3) := (HT2.out.mono (fun _ h => .inr h)).trans (ht3.mono (fun _ h => .inl h))
 clear hp3 ht3 HPP
 go_wp2
 go_ret
 exact ⟨rfl, HP3.out, HT3.out⟩
end Go.Proofs.YtbljfphdghfkfaaGreatDoor

/- The program's popFirst. -/
namespace Go.Proofs.YtbljfphdghfkfaaGreatDoor
open Go.RowKit
theorem Turns.later {S : Nat → Prop} {w w1 w2 : World} (h : Turns S w w1) (k : Turns (fun b => w.heap.size ≤ b) w1 w2) : Turns S w w2 :=
 ⟨k.os.trans h.os, k.tape.trans h.tape, k.output.trans h.output, Nat.le_trans h.size k.size, fun i hi hS => (k.block i (Nat.lt_of_lt_of_le hi h.size) (by omega)).trans (h.block i hi hS)⟩
theorem Pl.turns {S : Nat → Prop} {w w' : World} {B P : Nat} {v : Value} {l : List Ev} (h : Pl w B P v l) (ht : Turns S w w') (hP : ¬ S P) (hg : ∀ g, v.ownBlock = Option.some g → ¬ S g) : Pl w' B P v l := by
 refine ⟨(ht.block P h.box.lt hP).trans h.box, ?_, h.low⟩
 obtain ⟨h0, ⟨e, h1⟩ | ⟨g, cap, cur, rfl, hgB, hc, h1⟩⟩ := h.row
 ·exact ⟨h0, .inl ⟨e, h1⟩⟩
 ·exact ⟨h0, .inr ⟨g, cap, cur, rfl, hgB, (ht.block g (Array.getElem?_eq_some_iff.1 hc).1 (hg g rfl)).trans hc, h1⟩⟩
set_option maxRecDepth 100000 in
set_option maxHeartbeats 4000000 in
theorem popFirst_any (B P g cap : Nat) (l : List Ev) (n : Nat) (w : World) (hn : l.length = n + 1) (h : Pl w B P (.slice (some ⟨g, 0, none⟩) (n + 1) cap) l) (hl : l.length ≤ 1048576) (hok : Kept (fun e => e.ok = true) l) :
  Calls Tryz.prog 54 #[pv P] w fun r w' => r = .returned (evAt l 0).val ∧ Pl w' B P (.slice (some ⟨g, 0, none⟩) n cap) (takeL l 0) ∧ Turns (fun b => b = P ∨ b = g) w w' := by
 have HC : Hid (Calls Tryz.prog 85 #[pv P] (w.alloc (.cells #[.int .i64 0, .int .i64 0, .int .i64 0, .int .i64 0, .int .i64 0, .int .i64 0, .int .i64 0] 53)) fun r w' => r = .returned (.iface 53 (.agg #[.int .i64 (evAt l 0).t, .int .i64 (evAt l 0).s, .int .i64 (evAt l 0).q, .int .i64 (evAt l 0).d, .int .i64 (evAt l 0).k, .int .i64 (evAt l 0).v, .int .i64 (evAt l 0).g])) ∧ Pl w' B P (.slice (some ⟨g, 0, none⟩) n cap) (takeL l 0) ∧ Turns (fun b => b = P ∨ b = g) (w.alloc (.cells #[.int .i64 0, .int .i64 0, .int .i64 0, .int .i64 0, .int .i64 0, .int .i64 0, .int .i64 0] 53)) w') := libPop_any B P g cap l n _ hn (h.alloc _) hl hok
 have hPw : P < w.heap.size := h.box.lt
 obtain ⟨g', cap', hv, hR, hPg⟩ := h.form hn
 cases hv
 have hgw : g < w.heap.size := hR.lt.2
 have HLO : Hid (B ≤ P ∧ B ≤ g) := ⟨h.low, hR.lt.1⟩
 clear hR
 have hta := assert_ev (evAt l 0).t (evAt l 0).s (evAt l 0).q (evAt l 0).d (evAt l 0).k (evAt l 0).v (evAt l 0).g
 clear h hok
 go_enter Tryz.func54, Tryz.ntmps54
 go_wp2_with fail
 refine HC.out.mono ?_
 rintro r w1 ⟨rfl, hp, ht⟩
 have HP : Hid (Pl w1 B P (.slice (some ⟨g, 0, none⟩) n cap) (takeL l 0)) := hp
 have hzw : w.heap.size < w1.heap.size := by have := ht.size; simp at this; omega
 have hSn : ¬ (w.heap.size = P ∨ w.heap.size = g) := by omega
 have hcl : ∀ o, w1.cell? ⟨w.heap.size, o, none⟩ = (w.alloc (.cells #[.int .i64 0, .int .i64 0, .int .i64 0, .int .i64 0, .int .i64 0, .int .i64 0, .int .i64 0] 53)).cell? ⟨w.heap.size, o, none⟩ := fun o => ht.cell (by simp) hSn
 have hfz : ∀ o, w1.frozen? ⟨w.heap.size, o, none⟩ = false := fun o => (ht.frozen (by simp) hSn).trans (by simp)
 obtain ⟨z0, z1, z2, z3, z4, z5, z6⟩ := (EvAt.new w 53 0 0 0 0 0 0 0).lits
 rw [← hcl] at z0 z1 z2 z3 z4 z5 z6
 have HT : Hid (Turns (fun b => b = P ∨ b = g) w w1) := ((Turns.refl _ w).alloc _).trans ht
 clear hp ht hcl hSn
 go_wp2
 have HX : Turns (fun b => w.heap.size ≤ b) w1 ((put7 w1 w.heap.size 0 (evAt l 0)).alloc (.cells #[.int .i64 (evAt l 0).t, .int .i64 (evAt l 0).s, .int .i64 (evAt l 0).q, .int .i64 (evAt l 0).d, .int .i64 (evAt l 0).k, .int .i64 (evAt l 0).v, .int .i64 (evAt l 0).g] 53)) := ((Turns.refl (fun b => w.heap.size ≤ b) w1).put (g := w.heap.size) (Nat.le_refl _) 0 (evAt l 0)).alloc _
 refine bodyPost_ret (v := (evAt l 0).val) (by simp [hzw, results, Tryz.results54, go_sem, z0, z1, z2, z3, z4, z5, z6]) rfl ⟨rfl, ?_, ?_⟩
 ·exact HP.out.turns HX (by omega) (fun g' e => by cases e; simpa using hgw)
 ·exact HT.out.later HX
end Go.Proofs.YtbljfphdghfkfaaGreatDoor

