/- RegZ, POwS -/
import Derived.Test.YthfhibnnkpbeiaaGreatRows
import Derived.OrdersHeld
import Derived.Deep.RegionHeld
import Derived.Test.YthfhibnnkpbeiaaGreatExactWorldNewG01
import Derived.Test.YthfhibnnkpbeiaaGreatExactWorldNewG10
import Derived.Test.YthfhibnnkpbeiaaGreatExactWorldNewG09
import Derived.Deep.RegionHeld3
/- A drawn region whose last store need not keep what the others keep: an operation that the store waits for (by a chain) may be taken first in every world that meets S, where S is shown behind every operation but that store. -/
namespace Go.Proofs.YthfhibnnkpbeiaaGreat
open Go
section
variable {P : Program} {ops : Array Oper} {Q : Exit → Act → World → Prop} {md : Region.Mode} {S : World → Prop} {z : Nat}
def wpAnyZ (P : Program) (md : Region.Mode) (ops : Array Oper) (Q : Exit → Act → World → Prop) (S : World → Prop) (z : Nat) : Nat → Array Bool → Act → World → Prop
 | 0, listed, a, w => Region.ready md ops listed = [] ∧ Q .normal a w
 | fuel + 1, listed, a, w =>
  (Region.ready md ops listed = [] → Q .normal a w) ∧
  ∀ i ∈ Region.ready md ops listed, wpOp P ops Q i (fun a' w' => (i ≠ z → S w') ∧ wpAnyZ P md ops Q S z fuel (listed.setIfInBounds i true) a' w') a w
theorem wpAny_of_z : ∀ (fuel : Nat) (listed : Array Bool) (a : Act) (w : World), wpAnyZ P md ops Q S z fuel listed a w → wpAny P md ops Q fuel listed a w
 | 0, _, _, _, h => h
 | fuel + 1, _, _, _, h => ⟨h.1, fun i hi => wpOp_mono (fun a' w' h' => wpAny_of_z fuel _ a' w' h'.2) (h.2 i hi)⟩
def chainB (md : Region.Mode) (ops : Array Oper) (i : Nat) : Nat → List Nat → Bool
 | z, [] => z == i
 | z, p :: ps => ((ops[z]?).map fun o => o.after.any fun e => Region.binds md e && e.on == p).getD false && chainB md ops i p ps
theorem chain_wait {i p : Nat} {ps : List Nat} {listed : Array Bool} (h : chainB md ops i z (p :: ps) = true) (hp : listed.getD p true = false) : z ∉ Region.ready md ops listed := by
 intro hz
 obtain ⟨_, o, ho, hall⟩ := mem_ready.1 hz
 simp only [chainB, ho, Option.map_some, Option.getD_some, Bool.and_eq_true] at h
 obtain ⟨e, he, h1⟩ : ∃ e, e ∈ o.after ∧ (Region.binds md e = true ∧ e.on = p) := by
  have h0 := h.1
  simp only [Array.any_eq_true, Bool.and_eq_true, beq_iff_eq] at h0
  obtain ⟨k, hk, h1⟩ := h0
  exact ⟨o.after[k], Array.getElem_mem hk, h1⟩
 have h2 := hall e he h1.1
 rw [h1.2] at h2
 rcases Nat.lt_or_ge p listed.size with h' | h'
 ·simp [h'] at hp h2
  rw [hp] at h2
  cases h2
 ·simp [Array.getElem?_eq_none h'] at h2
theorem chain_mid {i : Nat} {listed : Array Bool} : ∀ (ps : List Nat) (z : Nat), chainB md ops i z ps = true → (∀ p ∈ ps, listed.getD p true = false) → ∀ p ∈ ps, p ≠ i → p ∉ Region.ready md ops listed
 | [], _, _, _, p, hp, _ => by cases hp
 | q :: ps, z, hc, hu, p, hp, hpi => by
  have hc' : chainB md ops i q ps = true := by
   simp only [chainB, Bool.and_eq_true] at hc
   exact hc.2
  rcases List.mem_cons.1 hp with rfl | hp
  ·cases ps with
   | nil => simp only [chainB, beq_iff_eq] at hc'; exact absurd hc' hpi
   | cons r rs => exact chain_wait hc' (hu r (List.mem_cons_of_mem _ List.mem_cons_self))
  ·exact chain_mid ps q hc' (fun p hp => hu p (List.mem_cons_of_mem _ hp)) p hp hpi
theorem wpAnyZ_first {i : Nat} {oi : Oper} {v : Value} {q : Nat} {ps : List Nat} (hi : ops[i]? = some oi) (hsel : ∀ (j : Nat) (o : Oper) cs b, ops[j]? = some o → o.op ≠ .select cs b)
  (hQ : ∀ c a w, Q (.panic c) (a.put oi.dst v) w → Q (.panic c) a w) (hc : chainB md ops i z (q :: ps) = true) :
  ∀ (fuel : Nat) (listed : Array Bool) (a : Act) (w : World),
   (∀ p ∈ q :: ps, listed.getD p true = false) →
   (∀ j oj, ops[j]? = some oj → j ≠ i → listed.getD j true = false → (∀ e ∈ oj.after, Region.binds md e = true → e.on ≠ i) → oi.apart ops oj = true) →
   i ∈ Region.ready md ops listed → YieldsIf P ops S oi v a → S w →
   wpAnyZ P md ops Q S z fuel (listed.setIfInBounds i true) (a.put oi.dst v) w → wpAnyZ P md ops Q S z (fuel + 1) listed a w := by
 intro fuel
 induction fuel with
 | zero =>
  intro listed a w hu _ hr hy hS H
  refine ⟨fun h => (by rw [h] at hr; cases hr), fun j hj => ?_⟩
  by_cases hji : j = i
  ·subst hji; exact hy.wpOp hi hS ⟨fun _ => hS, H⟩
  ·have := ready_mono hj hji
   rw [H.1] at this
   cases this
 | succ fuel ih =>
  intro listed a w hu hfree hr hy hS H
  refine ⟨fun h => (by rw [h] at hr; cases hr), fun j hj => ?_⟩
  by_cases hji : j = i
  ·subst hji; exact hy.wpOp hi hS ⟨fun _ => hS, H⟩
  ·have hjz : j ≠ z := fun e => chain_wait hc (hu q List.mem_cons_self) (e ▸ hj)
   have h1 := H.2 j (ready_mono hj hji)
   obtain ⟨hjun, oj, hoj, hall⟩ := mem_ready.1 hj
   have hnot : ∀ e ∈ oj.after, Region.binds md e = true → e.on ≠ i := fun e he hb heq => by
    have h1 := hall e he hb
    have h0 := (mem_ready.1 hr).1
    rw [heq] at h1
    rcases Nat.lt_or_ge i listed.size with h' | h'
    ·simp [h'] at h0 h1; rw [h0] at h1; cases h1
    ·simp [Array.getElem?_eq_none h'] at h1
   have h2 := wpOp_putIf hoj (hfree j oj hoj hji hjun hnot) (fun cs b => hsel i oi cs b hi) (fun cs b => hsel j oj cs b hoj) hQ hy h1
   have hfree' : ∀ k ok, ops[k]? = some ok → k ≠ i → (listed.setIfInBounds j true).getD k true = false →
     (∀ e ∈ ok.after, Region.binds md e = true → e.on ≠ i) → oi.apart ops ok = true := fun k ok hk hki hun hno => by
    refine hfree k ok hk hki ?_ hno
    by_cases hjk : j = k
    ·subst hjk; exact hjun
    ·rw [getD_set_ne true hjk] at hun; exact hun
   have hu' : ∀ p ∈ q :: ps, (listed.setIfInBounds j true).getD p true = false := fun p hp => by
    have hjp : j ≠ p := fun e => chain_mid (q :: ps) z hc hu p hp (fun e' => hji (e.trans e')) (e ▸ hj)
    rw [getD_set_ne true hjp]
    exact hu p hp
   refine wpOp_mono (fun a' w' h3 => ⟨fun _ => h3.2.1 hjz, ih (listed.setIfInBounds j true) a' w' hu' hfree' (ready_mono hr (Ne.symm hji)) h3.1 (h3.2.1 hjz) ?_⟩) h2
   rw [Array.setIfInBounds_comm _ _ hji]
   exact h3.2.2
theorem wpAnyZ_take {i : Nat} {oi : Oper} {v : Value} {fuel : Nat} {listed : Array Bool} {a : Act} {w : World} (q : Nat) (ps : List Nat) (hi : ops[i]? = some oi)
  (hs : Region.noSelect ops = true) (hf : Region.free md ops listed i = true) (hr : (Region.ready md ops listed).contains i = true)
  (hc : chainB md ops i z (q :: ps) = true) (hu : (q :: ps).all (fun p => !listed.getD p true) = true)
  (hQ : ∀ c a w, Q (.panic c) (a.put oi.dst v) w → Q (.panic c) a w) (hy : YieldsIf P ops S oi v a) (hS : S w)
  (h : wpAnyZ P md ops Q S z fuel (listed.setIfInBounds i true) (a.put oi.dst v) w) : wpAnyZ P md ops Q S z (fuel + 1) listed a w :=
 wpAnyZ_first hi (Region.noSelect_spec hs) hQ hc fuel listed a w (fun p hp => by have := List.all_eq_true.1 hu p hp; simpa using this) (Region.free_spec hi hf) (by simpa using hr) hy hS h
def AllReadyZ (P : Program) (md : Region.Mode) (ops : Array Oper) (Q : Exit → Act → World → Prop) (S : World → Prop) (z fuel : Nat) (listed : Array Bool) (a : Act) (w : World) (rs : List Nat) : Prop :=
 ∀ i ∈ rs, wpOp P ops Q i (fun a' w' => (i ≠ z → S w') ∧ wpAnyZ P md ops Q S z fuel (listed.setIfInBounds i true) a' w') a w
theorem AllReadyZ.nil {fuel : Nat} {listed : Array Bool} {a : Act} {w : World} : AllReadyZ P md ops Q S z fuel listed a w [] := fun _ h => by cases h
theorem AllReadyZ.cons {fuel : Nat} {listed : Array Bool} {a : Act} {w : World} {i : Nat} {o : Oper} {rs : List Nat} (ho : ops[i]? = some o)
  (h : ∀ K' : Act → World → Prop, Shut (∀ a w, S w → (S w → wpAnyZ P md ops Q S z fuel (listed.setIfInBounds i true) a w) → K' a w) → if Region.wanted o (yielded ops a.tmps) = true then Oper.wp P o a w K' Q else K' (a.put o.dst undef) w)
  (hs : AllReadyZ P md ops Q S z fuel listed a w rs) : AllReadyZ P md ops Q S z fuel listed a w (i :: rs) := fun j hj => by
 rcases List.mem_cons.1 hj with rfl | hj
 ·exact wpOp_step ho (fun K' hK => h K' (fun a w hS hW => hK a w ⟨fun _ => hS, hW hS⟩))
 ·exact hs j hj
theorem AllReadyZ.last {fuel : Nat} {listed : Array Bool} {a : Act} {w : World} {o : Oper} (ho : ops[z]? = some o)
  (h : ∀ K' : Act → World → Prop, Shut (∀ a w, wpAnyZ P md ops Q S z fuel (listed.setIfInBounds z true) a w → K' a w) → if Region.wanted o (yielded ops a.tmps) = true then Oper.wp P o a w K' Q else K' (a.put o.dst undef) w) :
  AllReadyZ P md ops Q S z fuel listed a w [z] := fun j hj => by
 rcases List.mem_cons.1 hj with rfl | hj
 ·exact wpOp_step ho (fun K' hK => h K' (fun a w hW => hK a w ⟨fun e => absurd rfl e, hW⟩))
 ·cases hj
theorem wpAnyZ_ready {rs : List Nat} {fuel : Nat} {listed : Array Bool} {a : Act} {w : World} (hr : Region.ready md ops listed = rs) (hne : rs ≠ [])
  (h : AllReadyZ P md ops Q S z fuel listed a w rs) : wpAnyZ P md ops Q S z (fuel + 1) listed a w := ⟨fun h0 => absurd (hr ▸ h0) hne, hr ▸ h⟩
theorem wpAnyZ_done {listed : Array Bool} {a : Act} {w : World} (hr : Region.ready md ops listed = []) (h : Q .normal a w) :
  ∀ fuel, wpAnyZ P md ops Q S z fuel listed a w
 | 0 => ⟨hr, h⟩
 | _ + 1 => ⟨fun _ => h, by rw [hr]; simp⟩
theorem wp_region_z {id : Nat} {a : Act} {w : World} (z : Nat) (S : World → Prop) (hm : P.follows .mixedOrders = true) (hS : S w.drew)
  (h : S w.drew → wpAnyZ P .any ops Q S z ops.size (Array.replicate ops.size false) a w.drew) : (Code.region id ops true).wp P Q a w :=
 wp_region_any hm (wpAny_of_z _ _ _ _ (h hS))
end
end Go.Proofs.YthfhibnnkpbeiaaGreat

/- The specification's copy of a state, registers of any number. -/
namespace Go.Proofs.YthfhibnnkpbeiaaGreat
open Go.RowKit
theorem tzPOwS {P : Program} {md : Region.Mode} {ops : Array Oper} {Q : Exit → Act → World → Prop} {S : World → Prop} {z fuel : Nat} {listed : Array Bool} {a : Act} {w : World} (i : Nat) (oi : Oper) (v : Value)
 (h : wpAnyZ P md ops Q S z fuel (listed.setIfInBounds i true) (a.put oi.dst v) w) (hi : ops[i]? = some oi := by rfl)
 (hs : Region.noSelect ops = true := by kernel_rfl) (hf : Region.free md ops listed i = true := by kernel_rfl) (hr : (Region.ready md ops listed).contains i = true := by kernel_rfl)
 (hc : chainB md ops i z [i] = true := by kernel_rfl) (hu : [i].all (fun p => !listed.getD p true) = true := by kernel_rfl)
 (hQ : ∀ c a w, Q (.panic c) (a.put oi.dst v) w → Q (.panic c) a w := by exact fun _ _ _ h => h)
 (hy : YieldsIf P ops S oi v a := by exact Or.inl ⟨by rfl, by (intro wX hSw; (try dsimp only at hSw); go_simp; (try exact IntWalk.i64_in _ (by omega)))⟩) (hS : S w := by assumption) : wpAnyZ P md ops Q S z (fuel + 1) listed a w :=
 wpAnyZ_take i [] hi hs hf hr hc hu hQ hy hS h
theorem hidPOwS {p : Prop} (h : p) : Hid p := h
theorem row_lim {w : World} {B : Nat} {e : TypeId} {size n : Nat} {v : Value} {xs : List Value} (h : w.ownsRow B e size v n xs) : ∀ k, v.ownBlock = some k → B ≤ k ∧ k < w.heap.size := fun _ hk => ⟨row_ge h hk, owns_lt h hk⟩
theorem newRow_lim {w w' : World} {B g : Nat} {e : TypeId} {size n : Nat} {v v' : Value} {xs : List Value} (hw : NewRow w v v') (hv : v.ownBlock = some g) (h : w'.ownsRow B e size v' n xs) : ∀ k, v'.ownBlock = some k → k = g ∨ (w.heap.size ≤ k ∧ k < w'.heap.size) := fun k hk => by
 rcases hw with h9 | h9
 ·rw [h9, hv] at hk
  exact .inl (by simpa using hk.symm)
 ·exact .inr ⟨h9 k hk, owns_lt h hk⟩
set_option maxRecDepth 100000 in
set_option maxHeartbeats 8000000 in
theorem l3own_src (x vr : Value) (s : St) (w : World) (hl : s.r.length ≤ 1048577) (hx : x = .agg #[vr, .int .i64 s.q, .int .i64 s.d]) (h : IsD w vr (intsD s.r)) :
  Calls Tryz.prog 93 #[x] w fun r w' => ∃ v, r = .returned (.agg #[v, .int .i64 s.q, .int .i64 s.d]) ∧ w'.ownsRow w.heap.size 3 1 v s.r.length (intCells s.r) ∧ Below w.heap.size w w' := by
 obtain ⟨ar, cr, rfl, _⟩ := IsD.len h
 subst hx
 obtain ⟨i3, hi3, hiz0, hiz1, hiz2⟩ := info_parts info3
 obtain ⟨W0, hW0⟩ : ∃ W0, (w.alloc (.cells #[.slice ar s.r.length cr, .int .i64 s.q, .int .i64 s.d] 67)).alloc (.cells #[.slice none 0 0, .int .i64 0, .int .i64 0] 67) = W0 := ⟨_, rfl⟩
 have hz0 : W0.heap.size = w.heap.size + 1 + 1 := by rw [← hW0]; simp
 have hb0 : Below w.heap.size w W0 := hW0 ▸ ((Below.refl _ w).alloc (Nat.le_refl _) _).alloc (by simp) _
 have HBw := hidPOwS hb0
 have HW0 := hidPOwS hW0
 have BX : Hid (Bk W0 w.heap.size 67 #[.slice ar s.r.length cr, .int .i64 s.q, .int .i64 s.d]) := hW0 ▸ (Bk.new w _ _).alloc _
 have BZ : Hid (Bk W0 (w.heap.size + 1) 67 #[.slice none 0 0, .int .i64 0, .int .i64 0]) := hW0 ▸ Bk.newAt (by simp) _ _
 have D1 := hidPOwS (h.under hb0)
 have hz0' : W0.heap.size ≤ w.heap.size + 1 + 1 ∧ w.heap.size + 1 + 1 ≤ W0.heap.size := by omega
 clear hW0 hb0 h hz0
 go_enter Tryz.func93, Tryz.ntmps93
 go_wp2_with fail
 rw [HW0.out]
 clear HW0
 have hzd : W0.drew.heap.size ≤ W0.heap.size ∧ W0.heap.size ≤ W0.drew.heap.size := ⟨Nat.le_refl _, Nat.le_refl _⟩
 have B_0 : Hid (Below W0.heap.size W0 W0.drew) := (Below.refl _ W0).drew
 have X_0 := hidPOwS BX.out.drew
 have Z_0 := hidPOwS BZ.out.drew
 have D1_0 := hidPOwS (D1.out.under (Below.refl _ W0).drew)
 have Q_0 : Hid (W0.drew.cell? ⟨w.heap.size, 0, none⟩ = some (.slice ar s.r.length cr) ∧ W0.drew.cell? ⟨w.heap.size, 1, none⟩ = some (.int .i64 s.q) ∧ W0.drew.cell? ⟨w.heap.size, 2, none⟩ = some (.int .i64 s.d)) := ⟨X_0.out.cell rfl, X_0.out.cell rfl, X_0.out.cell rfl⟩
 refine wp_region_z 9 (fun W => W.cell? ⟨w.heap.size, 0, none⟩ = some (.slice ar s.r.length cr) ∧ W.cell? ⟨w.heap.size, 1, none⟩ = some (.int .i64 s.q) ∧ W.cell? ⟨w.heap.size, 2, none⟩ = some (.int .i64 s.d)) (by kernel_rfl) Q_0.out (fun hHeld => ?_)
 refine tzPOwS 1 { dst := some 4, op := Op.fieldAddr 67 (Operand.tmp 1) 0, type := 0, pos := _, after := _, guard := none } (.pointer (some ⟨w.heap.size, 0, none⟩)) ?_
 try simp only [Act.put, List.setIfInBounds_toArray, List.set_cons_zero, List.set_cons_succ]
 refine tzPOwS 2 { dst := some 5, op := Op.load 22 (Operand.tmp 4), type := 22, pos := _, after := _, guard := none } (.slice ar s.r.length cr) ?_
 try simp only [Act.put, List.setIfInBounds_toArray, List.set_cons_zero, List.set_cons_succ]
 refine tzPOwS 4 { dst := some 7, op := Op.fieldAddr 67 (Operand.tmp 1) 1, type := 0, pos := _, after := _, guard := none } (.pointer (some ⟨w.heap.size, 1, none⟩)) ?_
 try simp only [Act.put, List.setIfInBounds_toArray, List.set_cons_zero, List.set_cons_succ]
 refine tzPOwS 5 { dst := some 8, op := Op.load 3 (Operand.tmp 7), type := 3, pos := _, after := _, guard := none } (.int .i64 s.q) ?_
 try simp only [Act.put, List.setIfInBounds_toArray, List.set_cons_zero, List.set_cons_succ]
 refine tzPOwS 6 { dst := some 9, op := Op.fieldAddr 67 (Operand.tmp 1) 2, type := 0, pos := _, after := _, guard := none } (.pointer (some ⟨w.heap.size, 2, none⟩)) ?_
 try simp only [Act.put, List.setIfInBounds_toArray, List.set_cons_zero, List.set_cons_succ]
 refine tzPOwS 7 { dst := some 10, op := Op.load 3 (Operand.tmp 9), type := 3, pos := _, after := _, guard := none } (.int .i64 s.d) ?_
 try simp only [Act.put, List.setIfInBounds_toArray, List.set_cons_zero, List.set_cons_succ]
 refine wpAnyZ_ready (rs := [0]) (by kernel_rfl) (by simp) ?_
 refine AllReadyZ.cons (o := { dst := some 3, op := Op.buildSlice 22 0 #[], type := 22, pos := _, after := _, guard := none }) rfl (fun K hK => ?_) AllReadyZ.nil
 obtain ⟨g8, hg8⟩ : ∃ g, g = W0.heap.size := ⟨_, rfl⟩
 obtain ⟨w1, hw1⟩ : ∃ V, (W0.alloc (.cells #[] 3)).drew = V := ⟨_, rfl⟩
 have HW1 := hidPOwS hw1
 have HG8 : Hid (g8 = W0.heap.size) := hg8
 have B_2 : Hid (Below W0.heap.size W0 w1) := by (rw [← hw1]; exact B_0.out.alloc B_0.out.size _)
 have X_2 : Hid (Bk w1 w.heap.size 67 #[.slice ar s.r.length cr, .int .i64 s.q, .int .i64 s.d]) := by (rw [← hw1]; exact X_0.out.alloc _)
 have Z_2 : Hid (Bk w1 (w.heap.size + 1) 67 #[.slice none 0 0, .int .i64 0, .int .i64 0]) := by (rw [← hw1]; exact Z_0.out.alloc _)
 have D1_2 : Hid (IsD w1 (.slice ar s.r.length cr) (intsD s.r)) := by (rw [← hw1]; exact D1_0.out.under ((Below.refl _ _).alloc (Nat.le_refl _) _))
 clear B_0 X_0 Z_0 D1_0
 have E_2 : Hid (w1.ownsRow W0.heap.size 3 1 (.slice (some ⟨g8, 0, none⟩) 0 0) 0 []) := by (rw [← hw1, hg8]; exact row_empty_any W0 3 1)
 have hz1 : g8 < w1.heap.size := by (rw [← hw1, hg8]; exact (Bk.new W0 3 #[]).lt)
 have hzy1 : W0.heap.size ≤ g8 ∧ g8 ≤ W0.heap.size := by omega
 clear hw1 hg8
 go_simp
 rw [HW1.out, ← HG8.out]
 have Q_2 : Hid (w1.cell? ⟨w.heap.size, 0, none⟩ = some (.slice ar s.r.length cr) ∧ w1.cell? ⟨w.heap.size, 1, none⟩ = some (.int .i64 s.q) ∧ w1.cell? ⟨w.heap.size, 2, none⟩ = some (.int .i64 s.d)) := ⟨X_2.out.cell rfl, X_2.out.cell rfl, X_2.out.cell rfl⟩
 refine hK.out _ _ Q_2.out (fun hHeld => ?_)
 clear hK K
 try simp only [Act.put, List.setIfInBounds_toArray, List.set_cons_zero, List.set_cons_succ]
 refine wpAnyZ_ready (rs := [3]) (by kernel_rfl) (by simp) ?_
 refine AllReadyZ.cons (o := { dst := some 6, op := Op.call { callee := Callee.builtin Builtin.append, args := #[Operand.tmp 3, Operand.tmp 5], argTypes := #[22, 22] }, type := 22, pos := _, after := _, guard := none }) rfl (fun K hK => ?_) AllReadyZ.nil
 refine step_append_src (w := w1) rfl (.tmp 3) (.tmp 5) 22 rfl W0.heap.size 3 i3 (.int .i64 0) 1 8 Tryz.underlying22 hi3 hiz0 hiz1 hiz2 rfl (by decide) (.slice (some ⟨g8, 0, none⟩) 0 0) 0 [] rfl E_2.out (.slice ar s.r.length cr) s.r.length (intCells s.r) rfl D1_2.out.srcI (intCells_ones _) (by unfold maxLen; omega) (by omega) B_2.out.size ?_
 intro va w3 hown hgrow hnew
 rw [Nat.zero_add, List.nil_append] at hown
 obtain ⟨av, cv, hva⟩ := owns_slice hown
 subst hva
 have hgt := grown_turns hgrow
 have hS8 : ∀ k, (Value.slice (some ⟨g8, 0, none⟩) 0 0).ownBlock = some k → k = g8 := fun k e => by simpa [Value.ownBlock] using e.symm
 have hz3 : w1.heap.size ≤ w3.heap.size := hgrow.size
 have B_4 := hidPOwS (B_2.out.grown hgrow B_2.out.size (fun k e => by have := hS8 k e; omega))
 have X_4 := hidPOwS (X_2.out.turns hgt (fun e => by have := hS8 _ e; omega))
 have Z_4 := hidPOwS (Z_2.out.turns hgt (fun e => by have := hS8 _ e; omega))
 clear B_2 X_2 Z_2 D1_2 E_2
 have A_4 := hidPOwS hown
 clear hown hgrow hnew hgt hS8
 have Q_4 : Hid (w3.cell? ⟨w.heap.size, 0, none⟩ = some (.slice ar s.r.length cr) ∧ w3.cell? ⟨w.heap.size, 1, none⟩ = some (.int .i64 s.q) ∧ w3.cell? ⟨w.heap.size, 2, none⟩ = some (.int .i64 s.d)) := ⟨X_4.out.cell rfl, X_4.out.cell rfl, X_4.out.cell rfl⟩
 refine hK.out _ _ Q_4.out (fun hHeld => ?_)
 clear hK K
 try simp only [Act.put, List.setIfInBounds_toArray, List.set_cons_zero, List.set_cons_succ]
 refine tzPOwS 8 { dst := some 11, op := Op.build 67 #[(0, Operand.tmp 6), (1, Operand.tmp 8), (2, Operand.tmp 10)], type := 67, pos := _, after := _, guard := none } (.agg #[.slice av s.r.length cv, .int .i64 s.q, .int .i64 s.d]) ?_
 try simp only [Act.put, List.setIfInBounds_toArray, List.set_cons_zero, List.set_cons_succ]
 refine wpAnyZ_ready (rs := [9]) (by kernel_rfl) (by simp) ?_
 refine AllReadyZ.last (o := { dst := none, op := Op.store 67 (Operand.tmp 2) (Operand.tmp 11), type := 0, pos := _, after := _, guard := none }) rfl (fun K hK => ?_)
 obtain ⟨q0, q1, q2⟩ := c3_3 Z_4.out
 have qf := Z_4.out.free
 go_simp
 clear qf q0 q1 q2
 refine hK.out _ _ ?_
 clear hK K
 try simp only [Act.put, List.setIfInBounds_toArray, List.set_cons_zero, List.set_cons_succ]
 refine wpAnyZ_done (by kernel_rfl) ?_ _
 obtain ⟨X5, hX5⟩ : ∃ X5, put3s w3 (w.heap.size + 1) (.slice av s.r.length cv) (.int .i64 s.q) (.int .i64 s.d) = X5 := ⟨_, rfl⟩
 have hP := Z_4.out.put3s (.slice av s.r.length cv) (.int .i64 s.q) (.int .i64 s.d)
 have ht := put3s_turns w3 (w.heap.size + 1) (.slice av s.r.length cv) (.int .i64 s.q) (.int .i64 s.d)
 rw [hX5] at hP ht
 unfold put3s at hX5
 rw [hX5]
 clear hX5
 go_wp2
 obtain ⟨t0, t1, t2⟩ := c3_3 hP
 refine bodyPost_ret (v := .agg #[.slice av s.r.length cv, .int .i64 s.q, .int .i64 s.d]) (by simp [results, Tryz.results93, go_sem, t0, t1, t2]) rfl ⟨_, rfl, owns_mono (owns_turns A_4.out ht (fun k hk e => by have := row_ge A_4.out hk; omega)) (by omega), (HBw.out.trans (B_4.out.mono (by omega))).trans (ht.to_below (fun k e => by omega) (by have := B_4.out.size; omega))⟩
end Go.Proofs.YthfhibnnkpbeiaaGreat

