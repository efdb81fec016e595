/- A region that draws its order, in a round of a loop over a function: walked once, in the order of the text, over worlds that only grow. -/
import Derived.Test.YtbljfphdghfkfaaGreatDoorSequencesCardLQuiet
import Derived.Sort.BigQuietIn
import Derived.RangeFuncCalls
namespace Go.Proofs.YtbljfphdghfkfaaGreatDoor
open Go.RowKit
section
variable {F : Fence} {n : Nat} {P : Program} {ops : Array Oper} {C : World → Prop}
theorem op_round {o : Oper} {a : Act} {K : Act → Prop} {K' : Act → World → Prop} {Q' : Exit → Act → World → Prop} {w : World} (hnd : ∀ c, o.op ≠ .defer c) (hw : C w)
  (h : ∀ a w', C w' → K a → K' a w') (ha : o.askedIn F P a C) (hh : o.quietIn F n P a C K) : o.wpIn F n P a w K' Q' := by
 obtain ⟨v, h1, h2⟩ := hh
 have h3 : Oper.quietUponIn F n P C w v ((execOp a.eval o).run P w) := h1 w hw
 refine ⟨ha w hw, ?_⟩
 rw [Oper.semAt_eq _ _ _ hnd]
 match hr : (execOp a.eval o).run P w, h3 with
 | .ok (.value u) w', ⟨e1, e2⟩ => subst e1; subst e2; exact h _ _ hw h2
 | .ok .skip w', ⟨e1, e2⟩ => subst e1; subst e2; exact h _ _ hw h2
 | .ok (.enter f args) w', ⟨e1, hd, hc⟩ => subst e1; exact ⟨hd, hc.mono fun e w'' ⟨he, hw''⟩ => by subst he; exact h _ _ hw'' h2⟩
theorem qop_round {i : Nat} {a : Act} {K : Act → Prop} {K' : Act → World → Prop} {Q' : Exit → Act → World → Prop} {w : World} (hnd : ∀ o, ops[i]? = some o → ∀ c, o.op ≠ .defer c) (hC : C w)
  (h : ∀ a w', C w' → K a → K' a w') (hh : qOpIn F n P ops C i K a) : wpOpIn F n P ops Q' i K' a w := by
 unfold qOpIn at hh
 unfold wpOpIn
 cases ho : ops[i]? with
 | none => simp only [ho] at hh ⊢; exact h _ _ hC hh
 | some o =>
  simp only [ho] at hh ⊢
  by_cases hw : Region.wanted o (yielded ops a.tmps) = true
  ·rw [if_pos hw] at hh ⊢
   exact op_round (hnd o ho) hC h hh.1 hh.2
  ·rw [if_neg hw] at hh ⊢
   exact ⟨hh.1 w hC, h _ _ hC hh.2⟩
theorem any_round {Q : Act → Prop} {Q' : Exit → Act → World → Prop} (hnd : ∀ (i : Nat) o, ops[i]? = some o → ∀ c, o.op ≠ .defer c) (hQ : ∀ a w, C w → Q a → Q' .normal a w) :
  ∀ (fuel : Nat) (listed : Array Bool) (a : Act) (w : World), C w → wpAnyQIn F n P .any ops C Q fuel listed a → wpAnyIn F n P .any ops Q' fuel listed a w
 | 0, _, _, _, hw, h => ⟨h.1, hQ _ _ hw h.2⟩
 | fuel + 1, _, _, _, hw, h => ⟨fun h0 => hQ _ _ hw (h.1 h0), fun i hi => qop_round (hnd i) hw (fun a' w' hw' => any_round hnd hQ fuel _ a' w' hw') (h.2 i hi)⟩
theorem region_round {id : Nat} {Q : Exit → Act → World → Prop} {a : Act} {W : World} {l : List Oper} (hm : P.follows .mixedOrders = true) (hB : Region.lexB .any l.toArray = true) (hnd : ∀ o ∈ l, ∀ c, o.op ≠ .defer c)
  (h : wpQuietIn F n P l.toArray (fun w' => ∃ p : Beyond W, w' = p.w) (fun a' => ∀ w', (∃ p : Beyond W, w' = p.w) → Q .normal a' w') l a) : (Code.region id l.toArray true).wpIn F n P Q a W := by
 simp only [Region.lexB, Bool.and_eq_true] at hB
 refine wpIn_region_any hm (any_round (C := fun w' => ∃ p : Beyond W, w' = p.w) (Q := fun a' => ∀ w', (∃ p : Beyond W, w' = p.w) → Q .normal a' w') (fun i o ho => hnd o ?_) (fun _ w' hw' h => h w' hw') _ _ _ _ ⟨⟨_, (Below.refl _ W).drew⟩, rfl⟩ ?_)
 ·have := Array.mem_of_getElem? ho
  simpa using this
 ·have := wpAnyQIn_lex (F := F) (n := n) (C := fun w' => ∃ p : Beyond W, w' = p.w) (md := .any) hB.1 l 0 (Array.replicate l.toArray.size false) a (by simp) (by simpa using hB.2) h
  simpa using this
end
end Go.Proofs.YtbljfphdghfkfaaGreatDoor
