/- PGc, RLift -/
import Derived.Test.YtdcnimdhfhbdmaaExactBackG33
import Derived.Test.YtdcnimdhfhbdmaaExactBackG08
import Derived.Test.YtdcnimdhfhbdmaaExactBackG00
import Derived.OrdersIn
import Derived.RangeFuncCalls
import Derived.RangeFuncLeaves
import Derived.RangeFuncBox
/- The last that was done is popped, its state taken over, its event pushed: what the doer is then. -/
namespace Go.Proofs.Ytdcnimdhfhbdmaa
open Go.RowKit
theorem popped {B D g k c4 : Nat} {p : Pa} {vr vt vt' va vu u7 : Value} {A1 A4 K7 K10 A4' : Nat → Prop} {U : List Ev} {W w4 w5 w6 w7 : World} (hk : k < p.p.length)
    (h : DoR B D W vr (.slice (some ⟨g, 0, none⟩) (k + 1) c4) vt va vu A1 A4 (p.back (k + 1)).rev U) (hA4g : A4 g) (hO7 : OwnD W K7 u7 (intsD (psAt p.p k).b.r))
    (hK7 : ∀ q, K7 q → A4 q ∧ q ≠ g ∧ ¬ A4' q ∧ ¬ K10 q) (hA4' : ∀ q, A4' q → A4 q)
    (hrest : ∀ (S : Nat → Prop) (W' : World), Turns S W W' → (∀ i, i < k * 12 → W'.cell? ⟨g, i, none⟩ = W.cell? ⟨g, i, none⟩ ∧ W'.frozen? ⟨g, i, none⟩ = W.frozen? ⟨g, i, none⟩) → (∀ q, A4' q → q ≠ g → ¬ S q) → OwnD W' A4' (.slice (some ⟨g, 0, none⟩) k c4) (pastsD (p.p.take k)))
    (hb4 : Below W.heap.size W w4)
    (hlow : ∀ i, i < k * 12 → w5.cell? ⟨g, i, none⟩ = w4.cell? ⟨g, i, none⟩ ∧ w5.frozen? ⟨g, i, none⟩ = w4.frozen? ⟨g, i, none⟩) (ht5 : Turns (fun q => q = D ∨ q = g) w4 w5)
    (ht6 : Turns (fun q => q = D) w5 w6)
    (hB7 : Bk w7 D 108 #[u7, .int .i64 (psAt p.p k).b.q, .int .i64 (psAt p.p k).b.d, .int .i64 p.n, .slice (some ⟨g, 0, none⟩) k c4, vt', va, vu])
    (ho7 : w7.ownsRow B 40 7 vt' ((p.back (k + 1)).t.reverse ++ [(psAt p.p k).e]).length (cellsL ((p.back (k + 1)).t.reverse ++ [(psAt p.p k).e]))) (hn7 : NewRow w6 vt vt') (ht7 : Turns (fun q => q = D ∨ vt.ownBlock = some q) w6 w7) :
    DoR B D w7 u7 (.slice (some ⟨g, 0, none⟩) k c4) vt' va vu K7 A4' (p.back k).rev U ∧ Turns (fun q => q = D ∨ q = g ∨ vt.ownBlock = some q) W w7 := by
  have hT : Turns (fun q => q = D ∨ q = g ∨ vt.ownBlock = some q) W w7 :=
    (((Turns.of_below hb4).trans (ht5.mono (fun q e => e.elim .inl (fun e => .inr (.inl e))))).trans (ht6.mono (fun q e => .inl e))).trans (ht7.mono (fun q e => e.elim .inl (fun e => .inr (.inr e))))
  have hT6 : Turns (fun q => q = D ∨ q = g) W w6 := ((Turns.of_below hb4).trans ht5).trans (ht6.mono (fun q e => .inl e))
  have hgD : g ≠ D := fun e => h.dD.2 (e ▸ hA4g)
  have hgW : g < W.heap.size := (h.cp.d4 g hA4g).1.2
  have hsz : W.heap.size ≤ w6.heap.size := hT6.size
  have hsz7 : W.heap.size ≤ w7.heap.size := hT.size
  have hvt' : ∀ q, q < W.heap.size → vt'.ownBlock = some q → vt.ownBlock = some q := fun q hq e => by
    rcases hn7 with e1 | e1
    · rw [← e1]; exact e
    · have := e1 q e; omega
  have hstk := back_st p hk
  refine ⟨⟨⟨?_, ?_, ?_, ?_, fun q hq => ?_, fun q hq => ?_, fun q hq e => ?_⟩, ?_, ?_, fun q hq => ?_, ⟨fun e => ?_, fun e => ?_⟩, h.lo⟩, hT⟩
  · show OwnD w7 K7 u7 (intsD (p.back k).st.r)
    rw [hstk]
    exact hO7.turns hT (fun q hq e => by
      have h4 := (hK7 q hq)
      rcases e with e | e | e
      · exact h.dD.2 (e ▸ h4.1)
      · exact h4.2.1 e
      · exact (h.cp.d4 q h4.1).2.1 e)
  · refine hrest _ w7 hT (fun i hi => ?_) (fun q hq hqg e => ?_)
    · have h5 := hlow i hi
      have hg4 : g < w4.heap.size := Nat.lt_of_lt_of_le hgW hb4.size
      have hg5 : g < w5.heap.size := Nat.lt_of_lt_of_le hg4 ht5.size
      have hg6 : g < w6.heap.size := Nat.lt_of_lt_of_le hg5 ht6.size
      have hS7 : ¬ (g = D ∨ vt.ownBlock = some g) := fun e => e.elim hgD (h.cp.d4 g hA4g).2.1
      exact ⟨((ht7.cell hg6 hS7).trans (ht6.cell hg5 hgD)).trans (h5.1.trans (hb4.cell (p := ⟨g, i, none⟩) hgW)), ((ht7.frozen hg6 hS7).trans (ht6.frozen hg5 hgD)).trans (h5.2.trans (hb4.frozen (p := ⟨g, i, none⟩) hgW))⟩
    · rcases e with e | e | e
      · exact h.dD.2 (e ▸ hA4' q hq)
      · exact hqg e
      · exact (h.cp.d4 q (hA4' q hq)).2.1 e
  · have e1 : (p.back k).rev.t = (p.back (k + 1)).t.reverse ++ [(psAt p.p k).e] := by
      show (p.back k).t.reverse = _
      rw [back_step p hk]
      simp
    rw [e1]
    exact ho7
  · refine owns_turns h.cp.antis hT (fun q hq e => ?_)
    rcases e with e | e | e
    · exact h.neT.2.1 (e ▸ hq)
    · exact (h.cp.d4 g hA4g).2.2 (e ▸ hq)
    · exact h.cp.d5 q e hq
  · have h4 := hK7 q hq
    have hd := h.cp.d4 q h4.1
    exact ⟨⟨hd.1.1, by have := hd.1.2; omega⟩, h4.2.2.1, fun e => hd.2.1 (hvt' q hd.1.2 e), hd.2.2⟩
  · have hd := h.cp.d4 q (hA4' q hq)
    exact ⟨⟨hd.1.1, by have := hd.1.2; omega⟩, fun e => hd.2.1 (hvt' q hd.1.2 e), hd.2.2⟩
  · have hva := owns_lt h.cp.antis e
    exact h.cp.d5 q (hvt' q hva hq) e
  · refine owns_turns h.und hT (fun q hq e => ?_)
    rcases e with e | e | e
    · exact h.neT.2.2 (e ▸ hq)
    · exact (h.du q hq).2.1 (e ▸ hA4g)
    · exact (h.du q hq).2.2.1 e
  · show Bk w7 D 108 #[u7, .int .i64 (p.back k).st.q, .int .i64 (p.back k).st.d, .int .i64 p.n, .slice (some ⟨g, 0, none⟩) k c4, vt', va, vu]
    rw [hstk]
    exact hB7
  · have hd := h.du q hq
    have hql := owns_lt h.und hq
    exact ⟨fun e => hd.2.1 (hK7 q e).1, fun e => hd.2.1 (hA4' q e), fun e => hd.2.2.1 (hvt' q hql e), hd.2.2.2⟩
  · exact h.dD.2 (hK7 D e).1
  · exact h.dD.2 (hA4' D e)
/- One more is undone. -/
theorem DoR.more {B D : Nat} {w w' : World} {vr vp vt va vu vu' : Value} {A1 A4 : Nat → Prop} {p : Pa} {u : List Ev} {e : Ev} (h : DoR B D w vr vp vt va vu A1 A4 p u) (hB : Bk w' D 108 #[vr, .int .i64 p.st.q, .int .i64 p.st.d, .int .i64 p.n, vp, vt, va, vu'])
    (ho : w'.ownsRow B 40 7 vu' (u ++ [e]).length (cellsL (u ++ [e]))) (hn : NewRow w vu vu') (ht : Turns (fun q => q = D ∨ vu.ownBlock = some q) w w') : DoR B D w' vr vp vt va vu' A1 A4 p (u ++ [e]) := by
  have hvu : ∀ q, q < w.heap.size → vu'.ownBlock = some q → vu.ownBlock = some q := fun q hq e => by
    rcases hn with e1 | e1
    · rw [← e1]; exact e
    · have := e1 q e; omega
  refine ⟨h.cp.turns ht (fun q e => ?_), ho, hB, fun q hq => ?_, h.dD, h.lo⟩
  · rcases e with rfl | e
    · exact ⟨h.dD.1, h.dD.2, h.neT.1, h.neT.2.1⟩
    · exact h.du q e
  · refine ⟨fun e => ?_, fun e => ?_, fun e => ?_, fun e => ?_⟩
    · exact (h.du q (hvu q (h.cp.d1 q e).1.2 hq)).1 e
    · exact (h.du q (hvu q (h.cp.d4 q e).1.2 hq)).2.1 e
    · exact (h.du q (hvu q (owns_lt h.cp.todo e) hq)).2.2.1 e
    · exact (h.du q (hvu q (owns_lt h.cp.antis e) hq)).2.2.2 e
end Go.Proofs.Ytdcnimdhfhbdmaa

/- A drawn region in a round of a loop over a function, or in a function that holds such a loop: walked as elsewhere (RegZ). The marks that such loops leave behind, however many. -/
namespace Go.Proofs.Ytdcnimdhfhbdmaa
open Go Go.RowKit
section
variable {n : Nat} {P : Program} {ops : Array Oper} {Q : Exit → Act → World → Prop} {md : Region.Mode} {F : Fence}
/- Fences that fence nothing: the wide one, in a round or out of it. -/
def Open (F : Fence) : Prop := ∃ r, F = { Fence.wide with round := r }
theorem Open.calls {n : Nat} {f : FuncId} {args : Array Value} {w : World} {R : Ending → World → Prop} (hF : Open F) (h : Calls P f args w R) : CallsIn F n P f args w R := by
  obtain ⟨r, rfl⟩ := hF
  exact callsIn_wide.2 h
theorem op_lift {o : Oper} {a : Act} {w : World} {K K' : Act → World → Prop} (hF : Open F) (hnd : ∀ c, o.op ≠ .defer c) (hK : ∀ a w, K a w → K' a w) (h : o.wp P a w K Q) : o.wpIn F n P a w K' Q := by
  have hfn : ∀ f, F.fn f := by obtain ⟨r, rfl⟩ := hF; exact fun _ => trivial
  have hd : F.depth.isSome = true → 1 ≤ n := by obtain ⟨r, rfl⟩ := hF; intro e; cases e
  refine ⟨fun f _ => hfn f, ?_⟩
  rw [Oper.semAt_eq _ _ _ hnd]
  have h' : o.upon P a K Q ((execOp a.eval o).run P w) := h
  match (execOp a.eval o).run P w, h' with
  | .ok (.value v) w', h' => exact hK _ _ h'
  | .ok .skip w', h' => exact hK _ _ h'
  | .ok (.defer d) w', h' => exact hK _ _ h'
  | .ok (.enter f args) w', h' =>
    exact ⟨hd, hF.calls (Calls.mono h' fun e w'' he => by cases e with
      | returned v => exact hK _ _ he
      | panicked c => exact he
      | outgrown => exact he)⟩
  | .ok (.row row args) w', h' =>
    refine ⟨hd, fun c cs _ => ?_⟩
    obtain ⟨v, w'', hv, hs⟩ := h' c cs
    obtain ⟨r, rfl⟩ := hF
    exact ⟨v, w'', hK _ _ hv, stepsIn_wide.2 hs⟩
  | .halt (.panic v) w', h' => exact h'
theorem wpOp_lift {i : Nat} {a : Act} {w : World} {K K' : Act → World → Prop} (hF : Open F) (hlo : ¬ LetsOut Q) (hnd : ∀ o, ops[i]? = some o → ∀ c, o.op ≠ .defer c) (hK : ∀ a w, K a w → K' a w) (h : wpOp P ops Q i K a w) : wpOpIn F n P ops Q i K' a w := by
  have hfn : ∀ f, F.fn f := by obtain ⟨r, rfl⟩ := hF; exact fun _ => trivial
  unfold wpOp at h
  unfold wpOpIn
  cases ho : ops[i]? with
  | none => simp only [ho] at h ⊢; exact hK _ _ h
  | some o =>
    simp only [ho] at h ⊢
    by_cases hw : Region.wanted o (yielded ops a.tmps) = true
    · rw [if_pos hw] at h ⊢
      rcases h with h | h
      · exact op_lift hF (hnd o ho) hK h
      · exact absurd h.2 hlo
    · rw [if_neg hw] at h ⊢
      exact ⟨fun f _ => hfn f, hK _ _ h⟩
theorem any_lift (hF : Open F) (hlo : ¬ LetsOut Q) (hnd : ∀ (i : Nat) (o : Oper), ops[i]? = some o → ∀ c, o.op ≠ .defer c) : ∀ (fuel : Nat) (listed : Array Bool) (a : Act) (w : World), wpAny P md ops Q fuel listed a w → wpAnyIn F n P md ops Q fuel listed a w
  | 0, _, _, _, h => h
  | fuel + 1, _, _, _, h => ⟨h.1, fun i hi => wpOp_lift hF hlo (hnd i) (fun a' w' => any_lift hF hlo hnd fuel _ a' w') (h.2 i hi)⟩
def noDeferB (ops : Array Oper) : Bool := ops.all fun o => match o.op with
  | .defer _ => false
  | _ => true
theorem noDefer {ops : Array Oper} (h : noDeferB ops = true) : ∀ (i : Nat) (o : Oper), ops[i]? = some o → ∀ c, o.op ≠ .defer c := fun i o ho c e => by
  unfold noDeferB at h
  rw [Array.all_eq_true] at h
  obtain ⟨hi, rfl⟩ := Array.getElem?_eq_some_iff.1 ho
  have := h i hi
  rw [e] at this
  cases this
/- RegZ's law, inside a fence that fences nothing. -/
theorem wpIn_region_z {id : Nat} {a : Act} {w : World} (z : Nat) (S : World → Prop) (hF : Open F) (hlo : ¬ LetsOut Q) (hnd : noDeferB ops = true) (hm : P.follows .mixedOrders = true) (hS : S w.drew)
    (h : S w.drew → wpAnyZ P .any ops Q S z ops.size (Array.replicate ops.size false) a w.drew) : (Code.region id ops true).wpIn F n P Q a w :=
  wpIn_region_any hm (any_lift hF hlo (noDefer hnd) _ _ _ _ (wpAny_of_z _ _ _ _ (h hS)))
end
/- Only where it goes on. -/
def only (K : Act → World → Prop) : Exit → Act → World → Prop := fun ex a w => ex = .normal ∧ K a w
theorem wpIn_only {F : Fence} {n : Nat} {P : Program} {c : Code} {K : Act → World → Prop} {Q : Exit → Act → World → Prop} {a : Act} {w : World} (h : c.wpIn F n P (only K) a w) : c.wpIn F n P (Exit.then K Q) a w :=
  Code.wpIn_mono (fun ex a w q => by obtain ⟨rfl, q⟩ := q; exact q) h
theorem only_out (K : Act → World → Prop) : ¬ LetsOut (only K) := fun ⟨_, _, h⟩ => nomatch h.1
theorem openWide : Open Fence.wide := ⟨none, rfl⟩
theorem openRound (l : Nat) : Open (Fence.wide.inRound l) := ⟨some l, rfl⟩
/- The marks of the loops over functions that have ended. -/
def marks (Ds : List Nat) : List Deferred := Ds.map fun D => { target := .collected D, args := #[] }
theorem leaves_marks {F : Fence} {n : Nat} {P : Program} {fn : Func} {tmps : Array Value} {R : Ending → World → Prop} : ∀ (Ds : List Nat) (w : World), Ds.Nodup → (∀ D ∈ Ds, w.heap[D]? = some (.deferred (some []))) →
    (∀ w', Turns (fun k => k ∈ Ds) w w' → LeavesIn F n P fn tmps R [] .returning w') → LeavesInM F n P fn tmps R (marks Ds) .returning w
  | [], w, _, _, h => h w (Turns.refl _ _)
  | D :: Ds, w, hn, hd, h => by
    have hD := hd D List.mem_cons_self
    have hlt : D < w.heap.size := (Array.getElem?_eq_some_iff.1 hD).1
    obtain ⟨hn1, hn2⟩ := List.nodup_cons.1 hn
    refine ⟨by simp, .inl ⟨D, _, rfl, run_takeDeferred hD, leaves_marks Ds _ hn2 (fun E hE => ?_) (fun w' ht => h w' ?_)⟩⟩
    · have hne : D ≠ E := fun e => hn1 (by rw [e]; exact hE)
      exact (World.putObj_heap_other (by first | exact hne | exact hne.symm)).trans (hd E (List.mem_cons_of_mem _ hE))
    · have h1 : Turns (fun k => k ∈ D :: Ds) w (w.putObj D (.deferred none)) :=
        ⟨rfl, rfl, rfl, by simp [World.putObj], fun k hk hk2 => World.putObj_heap_other (by have hne : k ≠ D := fun e => hk2 (by rw [e]; exact List.mem_cons_self); first | exact hne | exact hne.symm)⟩
      exact h1.trans (ht.mono (fun k e => List.mem_cons_of_mem _ e))
end Go.Proofs.Ytdcnimdhfhbdmaa

