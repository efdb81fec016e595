/- The program's popFirst. -/
import Derived.Test.YteecpandpkicmaaLibPop
namespace Go.Proofs.Yteecpandpkicmaa
open Go.RowKit
theorem Turns.later {S : Nat → Prop} {w w1 w2 : World} (h : Turns S w w1) (k : Turns (fun b => w.heap.size ≤ b) w1 w2) : Turns S w w2 :=
  ⟨k.os.trans h.os, k.tape.trans h.tape, k.output.trans h.output, Nat.le_trans h.size k.size, fun i hi hS => (k.block i (Nat.lt_of_lt_of_le hi h.size) (by omega)).trans (h.block i hi hS)⟩
theorem Pl.turns {S : Nat → Prop} {w w' : World} {B P : Nat} {v : Value} {l : List Ev} (h : Pl w B P v l) (ht : Turns S w w') (hP : ¬ S P) (hg : ∀ g, v.ownBlock = Option.some g → ¬ S g) : Pl w' B P v l := by
  refine ⟨(ht.block P h.box.lt hP).trans h.box, ?_, h.low⟩
  obtain ⟨h0, ⟨e, h1⟩ | ⟨g, cap, cur, rfl, hgB, hc, h1⟩⟩ := h.row
  · exact ⟨h0, .inl ⟨e, h1⟩⟩
  · exact ⟨h0, .inr ⟨g, cap, cur, rfl, hgB, (ht.block g (Array.getElem?_eq_some_iff.1 hc).1 (hg g rfl)).trans hc, h1⟩⟩
set_option maxRecDepth 100000 in
set_option maxHeartbeats 4000000 in
theorem popFirst_any (B P g cap : Nat) (l : List Ev) (n : Nat) (w : World) (hn : l.length = n + 1) (h : Pl w B P (.slice (some ⟨g, 0, none⟩) (n + 1) cap) l) (hl : l.length ≤ 1048576) (hok : Kept (fun e => e.ok = true) l) :
    Calls Try.prog 42 #[pv P] w fun r w' => r = .returned (evAt l 0).val ∧ Pl w' B P (.slice (some ⟨g, 0, none⟩) n cap) (takeL l 0) ∧ Turns (fun b => b = P ∨ b = g) w w' := by
  have HC : Hid (Calls Try.prog 60 #[pv P] (w.alloc (.cells #[.int .i64 0, .int .i64 0, .int .i64 0, .int .i64 0, .int .i64 0, .int .i64 0, .int .i64 0] 25)) fun r w' => r = .returned (.iface 25 (.agg #[.int .i64 (evAt l 0).t, .int .i64 (evAt l 0).s, .int .i64 (evAt l 0).q, .int .i64 (evAt l 0).d, .int .i64 (evAt l 0).k, .int .i64 (evAt l 0).v, .int .i64 (evAt l 0).g])) ∧ Pl w' B P (.slice (some ⟨g, 0, none⟩) n cap) (takeL l 0) ∧ Turns (fun b => b = P ∨ b = g) (w.alloc (.cells #[.int .i64 0, .int .i64 0, .int .i64 0, .int .i64 0, .int .i64 0, .int .i64 0, .int .i64 0] 25)) w') := libPop_any B P g cap l n _ hn (h.alloc _) hl hok
  have hPw : P < w.heap.size := h.box.lt
  obtain ⟨g', cap', hv, hR, hPg⟩ := h.form hn
  cases hv
  have hgw : g < w.heap.size := hR.lt.2
  have HLO : Hid (B ≤ P ∧ B ≤ g) := ⟨h.low, hR.lt.1⟩
  clear hR
  have hta := assert_ev (evAt l 0).t (evAt l 0).s (evAt l 0).q (evAt l 0).d (evAt l 0).k (evAt l 0).v (evAt l 0).g
  clear h hok
  go_enter Try.func42, Try.ntmps42
  go_wp2_with fail
  refine HC.out.mono ?_
  rintro r w1 ⟨rfl, hp, ht⟩
  have HP : Hid (Pl w1 B P (.slice (some ⟨g, 0, none⟩) n cap) (takeL l 0)) := hp
  have hzw : w.heap.size < w1.heap.size := by have := ht.size; simp at this; omega
  have hSn : ¬ (w.heap.size = P ∨ w.heap.size = g) := by omega
  have hcl : ∀ o, w1.cell? ⟨w.heap.size, o, none⟩ = (w.alloc (.cells #[.int .i64 0, .int .i64 0, .int .i64 0, .int .i64 0, .int .i64 0, .int .i64 0, .int .i64 0] 25)).cell? ⟨w.heap.size, o, none⟩ := fun o => ht.cell (by simp) hSn
  have hfz : ∀ o, w1.frozen? ⟨w.heap.size, o, none⟩ = false := fun o => (ht.frozen (by simp) hSn).trans (by simp)
  obtain ⟨z0, z1, z2, z3, z4, z5, z6⟩ := (EvAt.new w 25 0 0 0 0 0 0 0).lits
  rw [← hcl] at z0 z1 z2 z3 z4 z5 z6
  have HT : Hid (Turns (fun b => b = P ∨ b = g) w w1) := ((Turns.refl _ w).alloc _).trans ht
  clear hp ht hcl hSn
  go_wp2
  have HX : Turns (fun b => w.heap.size ≤ b) w1 ((put7 w1 w.heap.size 0 (evAt l 0)).alloc (.cells #[.int .i64 (evAt l 0).t, .int .i64 (evAt l 0).s, .int .i64 (evAt l 0).q, .int .i64 (evAt l 0).d, .int .i64 (evAt l 0).k, .int .i64 (evAt l 0).v, .int .i64 (evAt l 0).g] 25)) := ((Turns.refl (fun b => w.heap.size ≤ b) w1).put (g := w.heap.size) (Nat.le_refl _) 0 (evAt l 0)).alloc _
  refine bodyPost_ret (v := (evAt l 0).val) (by simp [hzw, results, Try.results42, go_sem, z0, z1, z2, z3, z4, z5, z6]) rfl ⟨rfl, ?_, ?_⟩
  · exact HP.out.turns HX (by omega) (fun g' e => by cases e; simpa using hgw)
  · exact HT.out.later HX

end Go.Proofs.Yteecpandpkicmaa
