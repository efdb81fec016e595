/- CPing, QuietR -/
import Derived.Test.YtbljfphdghfkfaaGreatDoorModelsCardG05
import Derived.Test.YtbljfphdghfkfaaGreatDoorModelsCardG03
import Derived.Sort.BigQuietIn
import Derived.RangeFuncCalls
/- The fixed trial of one model: ping. -/
namespace Go.Proofs.YtbljfphdghfkfaaGreatDoor
open Go.RowKit
def pingM : Md := ⟨1, 0, [0], [[⟨0, 0, 1, 0⟩, ⟨3, 0, 3, 1⟩, ⟨4, 2, 1, 0⟩, ⟨5, 1, 0, 0⟩, ⟨2, 0, 1, 0⟩]], [⟨0, -1, 0, 0, 0, 0, 0⟩], 5⟩
set_option maxRecDepth 100000 in
set_option maxHeartbeats 4000000 in
theorem ping_any (w : World) : Calls Tryz.prog 49 #[] w fun e w' => ∃ x, e = .returned x ∧ IsM w' x pingM ∧ Below w.heap.size w w' := by
 go_enter Tryz.func49, Tryz.ntmps49
 go_wp2
 obtain ⟨A0, hA0⟩ : ∃ A0, w.alloc (.cells #[.int .i64 1, .int .i64 0, .slice (some ⟨w.heap.size + 1 + 1, 0, none⟩) 1 1, .slice (some ⟨w.heap.size + 1 + 1 + 1, 0, none⟩) 1 1, .slice (some ⟨w.heap.size + 1 + 1 + 1 + 1, 0, none⟩) 1 1, .int .i64 5] 27) = A0 := ⟨_, rfl⟩
 have s0 : A0.heap.size = w.heap.size + 1 := by rw [← hA0]; simp
 have b0 : Bk A0 w.heap.size 27 #[.int .i64 1, .int .i64 0, .slice (some ⟨w.heap.size + 1 + 1, 0, none⟩) 1 1, .slice (some ⟨w.heap.size + 1 + 1 + 1, 0, none⟩) 1 1, .slice (some ⟨w.heap.size + 1 + 1 + 1 + 1, 0, none⟩) 1 1, .int .i64 5] := hA0 ▸ Bk.new w _ _
 have hB0 : Below w.heap.size w A0 := hA0 ▸ (Below.refl _ w).alloc (Nat.le_refl _) _
 rw [hA0]
 obtain ⟨A1, hA1⟩ : ∃ A1, A0.alloc (.cells #[.int .i64 0, .int .i64 0, .int .i64 1, .int .i64 0, .int .i64 3, .int .i64 0, .int .i64 3, .int .i64 1, .int .i64 4, .int .i64 2, .int .i64 1, .int .i64 0, .int .i64 5, .int .i64 1, .int .i64 0, .int .i64 0, .int .i64 2, .int .i64 0, .int .i64 1, .int .i64 0] 39) = A1 := ⟨_, rfl⟩
 have s1 : A1.heap.size = w.heap.size + 1 + 1 := by rw [← hA1]; simp [s0]
 have b1 : Bk A1 (w.heap.size + 1) 39 #[.int .i64 0, .int .i64 0, .int .i64 1, .int .i64 0, .int .i64 3, .int .i64 0, .int .i64 3, .int .i64 1, .int .i64 4, .int .i64 2, .int .i64 1, .int .i64 0, .int .i64 5, .int .i64 1, .int .i64 0, .int .i64 0, .int .i64 2, .int .i64 0, .int .i64 1, .int .i64 0] := hA1 ▸ Bk.newAt s0.symm _ _
 have hB1 : Below w.heap.size w A1 := hA1 ▸ hB0.alloc (by omega) _
 replace b0 := hA1 ▸ b0.alloc (.cells #[.int .i64 0, .int .i64 0, .int .i64 1, .int .i64 0, .int .i64 3, .int .i64 0, .int .i64 3, .int .i64 1, .int .i64 4, .int .i64 2, .int .i64 1, .int .i64 0, .int .i64 5, .int .i64 1, .int .i64 0, .int .i64 0, .int .i64 2, .int .i64 0, .int .i64 1, .int .i64 0] 39)
 rw [hA1]
 obtain ⟨A2, hA2⟩ : ∃ A2, A1.alloc (.cells #[.int .i64 0] 3) = A2 := ⟨_, rfl⟩
 have s2 : A2.heap.size = w.heap.size + 1 + 1 + 1 := by rw [← hA2]; simp [s1]
 have b2 : Bk A2 (w.heap.size + 1 + 1) 3 #[.int .i64 0] := hA2 ▸ Bk.newAt s1.symm _ _
 have hB2 : Below w.heap.size w A2 := hA2 ▸ hB1.alloc (by omega) _
 replace b0 := hA2 ▸ b0.alloc (.cells #[.int .i64 0] 3)
 replace b1 := hA2 ▸ b1.alloc (.cells #[.int .i64 0] 3)
 rw [hA2]
 obtain ⟨A3, hA3⟩ : ∃ A3, A2.alloc (.cells #[.slice (some ⟨w.heap.size + 1, 0, none⟩) 5 5] 37) = A3 := ⟨_, rfl⟩
 have s3 : A3.heap.size = w.heap.size + 1 + 1 + 1 + 1 := by rw [← hA3]; simp [s2]
 have b3 : Bk A3 (w.heap.size + 1 + 1 + 1) 37 #[.slice (some ⟨w.heap.size + 1, 0, none⟩) 5 5] := hA3 ▸ Bk.newAt s2.symm _ _
 have hB3 : Below w.heap.size w A3 := hA3 ▸ hB2.alloc (by omega) _
 replace b0 := hA3 ▸ b0.alloc (.cells #[.slice (some ⟨w.heap.size + 1, 0, none⟩) 5 5] 37)
 replace b1 := hA3 ▸ b1.alloc (.cells #[.slice (some ⟨w.heap.size + 1, 0, none⟩) 5 5] 37)
 replace b2 := hA3 ▸ b2.alloc (.cells #[.slice (some ⟨w.heap.size + 1, 0, none⟩) 5 5] 37)
 rw [hA3]
 obtain ⟨A4, hA4⟩ : ∃ A4, A3.alloc (.cells #[.int .i64 0, .int .i64 (-1), .int .i64 0, .int .i64 0, .int .i64 0, .int .i64 0, .int .i64 0] 53) = A4 := ⟨_, rfl⟩
 have b4 : Bk A4 (w.heap.size + 1 + 1 + 1 + 1) 53 #[.int .i64 0, .int .i64 (-1), .int .i64 0, .int .i64 0, .int .i64 0, .int .i64 0, .int .i64 0] := hA4 ▸ Bk.newAt s3.symm _ _
 have hB4 : Below w.heap.size w A4 := hA4 ▸ hB3.alloc (by omega) _
 replace b0 := hA4 ▸ b0.alloc (.cells #[.int .i64 0, .int .i64 (-1), .int .i64 0, .int .i64 0, .int .i64 0, .int .i64 0, .int .i64 0] 53)
 replace b1 := hA4 ▸ b1.alloc (.cells #[.int .i64 0, .int .i64 (-1), .int .i64 0, .int .i64 0, .int .i64 0, .int .i64 0, .int .i64 0] 53)
 replace b2 := hA4 ▸ b2.alloc (.cells #[.int .i64 0, .int .i64 (-1), .int .i64 0, .int .i64 0, .int .i64 0, .int .i64 0, .int .i64 0] 53)
 replace b3 := hA4 ▸ b3.alloc (.cells #[.int .i64 0, .int .i64 (-1), .int .i64 0, .int .i64 0, .int .i64 0, .int .i64 0, .int .i64 0] 53)
 rw [hA4]
 clear hA0 hA1 hA2 hA3 hA4 s0 s1 s2 s3 hB0 hB1 hB2 hB3
 have t0 := b0.cell (i := 0) rfl
 have t1 := b0.cell (i := 1) rfl
 have t2 := b0.cell (i := 2) rfl
 have t3 := b0.cell (i := 3) rfl
 have t4 := b0.cell (i := 4) rfl
 have t5 := b0.cell (i := 5) rfl
 refine bodyPost_ret (v := .agg #[.int .i64 1, .int .i64 0, .slice (some ⟨w.heap.size + 1 + 1, 0, none⟩) 1 1, .slice (some ⟨w.heap.size + 1 + 1 + 1, 0, none⟩) 1 1, .slice (some ⟨w.heap.size + 1 + 1 + 1 + 1, 0, none⟩) 1 1, .int .i64 5]) (by simp [results, Tryz.results49, go_sem, t0, t1, t2, t3, t4, t5]) rfl ⟨_, rfl, ⟨_, _, _, rfl, ?_, ?_, ?_⟩, hB4⟩
 ·refine ⟨_, 1, rfl, Nat.le_refl _, by unfold maxLen; omega, .inr ⟨_, 0, rfl, b2.lt, fun i hi => ?_⟩⟩
  obtain rfl : i = 0 := by simp [pingM] at hi; omega
  exact b2.cell rfl
 ·refine ⟨_, 1, rfl, Nat.le_refl _, by unfold maxLen; omega, .inr ⟨_, 0, rfl, b3.lt, fun i hi => ?_⟩⟩
  obtain rfl : i = 0 := by simp [pingM] at hi; omega
  refine ⟨_, b3.cell rfl, _, 5, rfl, Nat.le_refl _, by unfold maxLen; omega, .inr ⟨_, 0, rfl, b1.lt, fun j hj => ?_⟩⟩
  have h5 : j = 0 ∨ j = 1 ∨ j = 2 ∨ j = 3 ∨ j = 4 := by simp [pingM, hAt] at hj; omega
  rcases h5 with rfl | rfl | rfl | rfl | rfl <;> exact ⟨b1.cell rfl, b1.cell rfl, b1.cell rfl, b1.cell rfl⟩
 ·refine ⟨_, 1, rfl, Nat.le_refl _, by unfold maxLen; omega, .inr ⟨_, 0, rfl, b4.lt, fun i hi => ?_⟩⟩
  obtain rfl : i = 0 := by simp [pingM] at hi; omega
  exact ⟨b4.cell rfl, b4.cell rfl, b4.cell rfl, b4.cell rfl, b4.cell rfl, b4.cell rfl, b4.cell rfl⟩
end Go.Proofs.YtbljfphdghfkfaaGreatDoor

/- A region that draws its order, in a round of a loop over a function: walked once, in the order of the text, over worlds that only grow. -/
namespace Go.Proofs.YtbljfphdghfkfaaGreatDoor
open Go.RowKit
section
variable {F : Fence} {n : Nat} {P : Program} {ops : Array Oper} {C : World → Prop}
theorem op_round {o : Oper} {a : Act} {K : Act → Prop} {K' : Act → World → Prop} {Q' : Exit → Act → World → Prop} {w : World} (hnd : ∀ c, o.op ≠ .defer c) (hw : C w)
  (h : ∀ a w', C w' → K a → K' a w') (ha : o.askedIn F P a C) (hh : o.quietIn F n P a C K) : o.wpIn F n P a w K' Q' := by
 obtain ⟨v, h1, h2⟩ := hh
 have h3 : Oper.quietUponIn F n P C w v ((execOp a.eval o).run P w) := h1 w hw
 refine ⟨ha w hw, ?_⟩
 rw [Oper.semAt_eq _ _ _ hnd]
 match hr : (execOp a.eval o).run P w, h3 with
 | .ok (.value u) w', ⟨e1, e2⟩ => subst e1; subst e2; exact h _ _ hw h2
 | .ok .skip w', ⟨e1, e2⟩ => subst e1; subst e2; exact h _ _ hw h2
 | .ok (.enter f args) w', ⟨e1, hd, hc⟩ => subst e1; exact ⟨hd, hc.mono fun e w'' ⟨he, hw''⟩ => by subst he; exact h _ _ hw'' h2⟩
theorem qop_round {i : Nat} {a : Act} {K : Act → Prop} {K' : Act → World → Prop} {Q' : Exit → Act → World → Prop} {w : World} (hnd : ∀ o, ops[i]? = some o → ∀ c, o.op ≠ .defer c) (hC : C w)
  (h : ∀ a w', C w' → K a → K' a w') (hh : qOpIn F n P ops C i K a) : wpOpIn F n P ops Q' i K' a w := by
 unfold qOpIn at hh
 unfold wpOpIn
 cases ho : ops[i]? with
 | none => simp only [ho] at hh ⊢; exact h _ _ hC hh
 | some o =>
  simp only [ho] at hh ⊢
  by_cases hw : Region.wanted o (yielded ops a.tmps) = true
  ·rw [if_pos hw] at hh ⊢
   exact op_round (hnd o ho) hC h hh.1 hh.2
  ·rw [if_neg hw] at hh ⊢
   exact ⟨hh.1 w hC, h _ _ hC hh.2⟩
theorem any_round {Q : Act → Prop} {Q' : Exit → Act → World → Prop} (hnd : ∀ (i : Nat) o, ops[i]? = some o → ∀ c, o.op ≠ .defer c) (hQ : ∀ a w, C w → Q a → Q' .normal a w) :
  ∀ (fuel : Nat) (listed : Array Bool) (a : Act) (w : World), C w → wpAnyQIn F n P .any ops C Q fuel listed a → wpAnyIn F n P .any ops Q' fuel listed a w
 | 0, _, _, _, hw, h => ⟨h.1, hQ _ _ hw h.2⟩
 | fuel + 1, _, _, _, hw, h => ⟨fun h0 => hQ _ _ hw (h.1 h0), fun i hi => qop_round (hnd i) hw (fun a' w' hw' => any_round hnd hQ fuel _ a' w' hw') (h.2 i hi)⟩
theorem region_round {id : Nat} {Q : Exit → Act → World → Prop} {a : Act} {W : World} {l : List Oper} (hm : P.follows .mixedOrders = true) (hB : Region.lexB .any l.toArray = true) (hnd : ∀ o ∈ l, ∀ c, o.op ≠ .defer c)
  (h : wpQuietIn F n P l.toArray (fun w' => ∃ p : Beyond W, w' = p.w) (fun a' => ∀ w', (∃ p : Beyond W, w' = p.w) → Q .normal a' w') l a) : (Code.region id l.toArray true).wpIn F n P Q a W := by
 simp only [Region.lexB, Bool.and_eq_true] at hB
 refine wpIn_region_any hm (any_round (C := fun w' => ∃ p : Beyond W, w' = p.w) (Q := fun a' => ∀ w', (∃ p : Beyond W, w' = p.w) → Q .normal a' w') (fun i o ho => hnd o ?_) (fun _ w' hw' h => h w' hw') _ _ _ _ ⟨⟨_, (Below.refl _ W).drew⟩, rfl⟩ ?_)
 ·have := Array.mem_of_getElem? ho
  simpa using this
 ·have := wpAnyQIn_lex (F := F) (n := n) (C := fun w' => ∃ p : Beyond W, w' = p.w) (md := .any) hB.1 l 0 (Array.replicate l.toArray.size false) a (by simp) (by simpa using hB.2) h
  simpa using this
end
end Go.Proofs.YtbljfphdghfkfaaGreatDoor

