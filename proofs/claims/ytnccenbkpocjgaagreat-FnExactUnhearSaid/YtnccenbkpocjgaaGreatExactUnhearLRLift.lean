/- RLift -/
import Derived.Test.YtnccenbkpocjgaaGreatExactHearG11
import Derived.Test.YtnccenbkpocjgaaGreatExactHearG01
import Derived.OrdersIn
import Derived.RangeFuncCalls
import Derived.RangeFuncLeaves
import Derived.RangeFuncBox
/- A drawn region in a round of a loop over a function, or in a function that holds such a loop: walked as elsewhere (RegZ). The marks that such loops leave behind, however many. -/
namespace Go.Proofs.YtnccenbkpocjgaaGreat
open Go Go.RowKit
section
variable {n : Nat} {P : Program} {ops : Array Oper} {Q : Exit → Act → World → Prop} {md : Region.Mode} {F : Fence}
def Open (F : Fence) : Prop := ∃ r, F = { Fence.wide with round := r }
theorem Open.calls {n : Nat} {f : FuncId} {args : Array Value} {w : World} {R : Ending → World → Prop} (hF : Open F) (h : Calls P f args w R) : CallsIn F n P f args w R := by
 obtain ⟨r, rfl⟩ := hF
 exact callsIn_wide.2 h
theorem op_lift {o : Oper} {a : Act} {w : World} {K K' : Act → World → Prop} (hF : Open F) (hnd : ∀ c, o.op ≠ .defer c) (hK : ∀ a w, K a w → K' a w) (h : o.wp P a w K Q) : o.wpIn F n P a w K' Q := by
 have hfn : ∀ f, F.fn f := by obtain ⟨r, rfl⟩ := hF; exact fun _ => trivial
 have hd : F.depth.isSome = true → 1 ≤ n := by obtain ⟨r, rfl⟩ := hF; intro e; cases e
 refine ⟨fun f _ => hfn f, ?_⟩
 rw [Oper.semAt_eq _ _ _ hnd]
 have h' : o.upon P a K Q ((execOp a.eval o).run P w) := h
 match (execOp a.eval o).run P w, h' with
 | .ok (.value v) w', h' => exact hK _ _ h'
 | .ok .skip w', h' => exact hK _ _ h'
 | .ok (.defer d) w', h' => exact hK _ _ h'
 | .ok (.enter f args) w', h' =>
  exact ⟨hd, hF.calls (Calls.mono h' fun e w'' he => by cases e with
   | returned v => exact hK _ _ he
   | panicked c => exact he
   | outgrown => exact he)⟩
 | .ok (.row row args) w', h' =>
  refine ⟨hd, fun c cs _ => ?_⟩
  obtain ⟨v, w'', hv, hs⟩ := h' c cs
  obtain ⟨r, rfl⟩ := hF
  exact ⟨v, w'', hK _ _ hv, stepsIn_wide.2 hs⟩
 | .halt (.panic v) w', h' => exact h'
theorem wpOp_lift {i : Nat} {a : Act} {w : World} {K K' : Act → World → Prop} (hF : Open F) (hlo : ¬ LetsOut Q) (hnd : ∀ o, ops[i]? = some o → ∀ c, o.op ≠ .defer c) (hK : ∀ a w, K a w → K' a w) (h : wpOp P ops Q i K a w) : wpOpIn F n P ops Q i K' a w := by
 have hfn : ∀ f, F.fn f := by obtain ⟨r, rfl⟩ := hF; exact fun _ => trivial
 unfold wpOp at h
 unfold wpOpIn
 cases ho : ops[i]? with
 | none => simp only [ho] at h ⊢; exact hK _ _ h
 | some o =>
  simp only [ho] at h ⊢
  by_cases hw : Region.wanted o (yielded ops a.tmps) = true
  ·rw [if_pos hw] at h ⊢
   rcases h with h | h
   ·exact op_lift hF (hnd o ho) hK h
   ·exact absurd h.2 hlo
  ·rw [if_neg hw] at h ⊢
   exact ⟨fun f _ => hfn f, hK _ _ h⟩
theorem any_lift (hF : Open F) (hlo : ¬ LetsOut Q) (hnd : ∀ (i : Nat) (o : Oper), ops[i]? = some o → ∀ c, o.op ≠ .defer c) : ∀ (fuel : Nat) (listed : Array Bool) (a : Act) (w : World), wpAny P md ops Q fuel listed a w → wpAnyIn F n P md ops Q fuel listed a w
 | 0, _, _, _, h => h
 | fuel + 1, _, _, _, h => ⟨h.1, fun i hi => wpOp_lift hF hlo (hnd i) (fun a' w' => any_lift hF hlo hnd fuel _ a' w') (h.2 i hi)⟩
def noDeferB (ops : Array Oper) : Bool := ops.all fun o => match o.op with
 | .defer _ => false
 | _ => true
theorem noDefer {ops : Array Oper} (h : noDeferB ops = true) : ∀ (i : Nat) (o : Oper), ops[i]? = some o → ∀ c, o.op ≠ .defer c := fun i o ho c e => by
 unfold noDeferB at h
 rw [Array.all_eq_true] at h
 obtain ⟨hi, rfl⟩ := Array.getElem?_eq_some_iff.1 ho
 have := h i hi
 rw [e] at this
 cases this
theorem wpIn_region_z {id : Nat} {a : Act} {w : World} (z : Nat) (S : World → Prop) (hF : Open F) (hlo : ¬ LetsOut Q) (hnd : noDeferB ops = true) (hm : P.follows .mixedOrders = true) (hS : S w.drew)
  (h : S w.drew → wpAnyZ P .any ops Q S z ops.size (Array.replicate ops.size false) a w.drew) : (Code.region id ops true).wpIn F n P Q a w :=
 wpIn_region_any hm (any_lift hF hlo (noDefer hnd) _ _ _ _ (wpAny_of_z _ _ _ _ (h hS)))
end
def only (K : Act → World → Prop) : Exit → Act → World → Prop := fun ex a w => ex = .normal ∧ K a w
theorem wpIn_only {F : Fence} {n : Nat} {P : Program} {c : Code} {K : Act → World → Prop} {Q : Exit → Act → World → Prop} {a : Act} {w : World} (h : c.wpIn F n P (only K) a w) : c.wpIn F n P (Exit.then K Q) a w :=
 Code.wpIn_mono (fun ex a w q => by obtain ⟨rfl, q⟩ := q; exact q) h
theorem only_out (K : Act → World → Prop) : ¬ LetsOut (only K) := fun ⟨_, _, h⟩ => nomatch h.1
theorem openWide : Open Fence.wide := ⟨none, rfl⟩
theorem openRound (l : Nat) : Open (Fence.wide.inRound l) := ⟨some l, rfl⟩
def marks (Ds : List Nat) : List Deferred := Ds.map fun D => { target := .collected D, args := #[] }
theorem leaves_marks {F : Fence} {n : Nat} {P : Program} {fn : Func} {tmps : Array Value} {R : Ending → World → Prop} : ∀ (Ds : List Nat) (w : World), Ds.Nodup → (∀ D ∈ Ds, w.heap[D]? = some (.deferred (some []))) →
  (∀ w', Turns (fun k => k ∈ Ds) w w' → LeavesIn F n P fn tmps R [] .returning w') → LeavesInM F n P fn tmps R (marks Ds) .returning w
 | [], w, _, _, h => h w (Turns.refl _ _)
 | D :: Ds, w, hn, hd, h => by
  have hD := hd D List.mem_cons_self
  have hlt : D < w.heap.size := (Array.getElem?_eq_some_iff.1 hD).1
  obtain ⟨hn1, hn2⟩ := List.nodup_cons.1 hn
  refine ⟨by simp, .inl ⟨D, _, rfl, run_takeDeferred hD, leaves_marks Ds _ hn2 (fun E hE => ?_) (fun w' ht => h w' ?_)⟩⟩
  ·have hne : D ≠ E := fun e => hn1 (by rw [e]; exact hE)
   exact (World.putObj_heap_other (by first | exact hne | exact hne.symm)).trans (hd E (List.mem_cons_of_mem _ hE))
  ·have h1 : Turns (fun k => k ∈ D :: Ds) w (w.putObj D (.deferred none)) :=
    ⟨rfl, rfl, rfl, by simp [World.putObj], fun k hk hk2 => World.putObj_heap_other (by have hne : k ≠ D := fun e => hk2 (by rw [e]; exact List.mem_cons_self); first | exact hne | exact hne.symm)⟩
   exact h1.trans (ht.mono (fun k e => List.mem_cons_of_mem _ e))
end Go.Proofs.YtnccenbkpocjgaaGreat
