/- RegZ, LSet -/
import Derived.Test.YtbljfphdghfkfaaGreatDoorRows
import Derived.OrdersHeld
import Derived.Deep.RegionHeld
import Derived.Test.YtbljfphdghfkfaaGreatDoorModelsCardLLDraw
import Derived.Test.YtbljfphdghfkfaaGreatDoorModelsCardG25
/- A drawn region whose last store need not keep what the others keep: an operation that the store waits for (by a chain) may be taken first in every world that meets S, where S is shown behind every operation but that store. -/
namespace Go.Proofs.YtbljfphdghfkfaaGreatDoor
open Go
section
variable {P : Program} {ops : Array Oper} {Q : Exit → Act → World → Prop} {md : Region.Mode} {S : World → Prop} {z : Nat}
def wpAnyZ (P : Program) (md : Region.Mode) (ops : Array Oper) (Q : Exit → Act → World → Prop) (S : World → Prop) (z : Nat) : Nat → Array Bool → Act → World → Prop
 | 0, listed, a, w => Region.ready md ops listed = [] ∧ Q .normal a w
 | fuel + 1, listed, a, w =>
  (Region.ready md ops listed = [] → Q .normal a w) ∧
  ∀ i ∈ Region.ready md ops listed, wpOp P ops Q i (fun a' w' => (i ≠ z → S w') ∧ wpAnyZ P md ops Q S z fuel (listed.setIfInBounds i true) a' w') a w
theorem wpAny_of_z : ∀ (fuel : Nat) (listed : Array Bool) (a : Act) (w : World), wpAnyZ P md ops Q S z fuel listed a w → wpAny P md ops Q fuel listed a w
 | 0, _, _, _, h => h
 | fuel + 1, _, _, _, h => ⟨h.1, fun i hi => wpOp_mono (fun a' w' h' => wpAny_of_z fuel _ a' w' h'.2) (h.2 i hi)⟩
def chainB (md : Region.Mode) (ops : Array Oper) (i : Nat) : Nat → List Nat → Bool
 | z, [] => z == i
 | z, p :: ps => ((ops[z]?).map fun o => o.after.any fun e => Region.binds md e && e.on == p).getD false && chainB md ops i p ps
theorem chain_wait {i p : Nat} {ps : List Nat} {listed : Array Bool} (h : chainB md ops i z (p :: ps) = true) (hp : listed.getD p true = false) : z ∉ Region.ready md ops listed := by
 intro hz
 obtain ⟨_, o, ho, hall⟩ := mem_ready.1 hz
 simp only [chainB, ho, Option.map_some, Option.getD_some, Bool.and_eq_true] at h
 obtain ⟨e, he, h1⟩ : ∃ e, e ∈ o.after ∧ (Region.binds md e = true ∧ e.on = p) := by
  have h0 := h.1
  simp only [Array.any_eq_true, Bool.and_eq_true, beq_iff_eq] at h0
  obtain ⟨k, hk, h1⟩ := h0
  exact ⟨o.after[k], Array.getElem_mem hk, h1⟩
 have h2 := hall e he h1.1
 rw [h1.2] at h2
 rcases Nat.lt_or_ge p listed.size with h' | h'
 ·simp [h'] at hp h2
  rw [hp] at h2
  cases h2
 ·simp [Array.getElem?_eq_none h'] at h2
theorem chain_mid {i : Nat} {listed : Array Bool} : ∀ (ps : List Nat) (z : Nat), chainB md ops i z ps = true → (∀ p ∈ ps, listed.getD p true = false) → ∀ p ∈ ps, p ≠ i → p ∉ Region.ready md ops listed
 | [], _, _, _, p, hp, _ => by cases hp
 | q :: ps, z, hc, hu, p, hp, hpi => by
  have hc' : chainB md ops i q ps = true := by
   simp only [chainB, Bool.and_eq_true] at hc
   exact hc.2
  rcases List.mem_cons.1 hp with rfl | hp
  ·cases ps with
   | nil => simp only [chainB, beq_iff_eq] at hc'; exact absurd hc' hpi
   | cons r rs => exact chain_wait hc' (hu r (List.mem_cons_of_mem _ List.mem_cons_self))
  ·exact chain_mid ps q hc' (fun p hp => hu p (List.mem_cons_of_mem _ hp)) p hp hpi
theorem wpAnyZ_first {i : Nat} {oi : Oper} {v : Value} {q : Nat} {ps : List Nat} (hi : ops[i]? = some oi) (hsel : ∀ (j : Nat) (o : Oper) cs b, ops[j]? = some o → o.op ≠ .select cs b)
  (hQ : ∀ c a w, Q (.panic c) (a.put oi.dst v) w → Q (.panic c) a w) (hc : chainB md ops i z (q :: ps) = true) :
  ∀ (fuel : Nat) (listed : Array Bool) (a : Act) (w : World),
   (∀ p ∈ q :: ps, listed.getD p true = false) →
   (∀ j oj, ops[j]? = some oj → j ≠ i → listed.getD j true = false → (∀ e ∈ oj.after, Region.binds md e = true → e.on ≠ i) → oi.apart ops oj = true) →
   i ∈ Region.ready md ops listed → YieldsIf P ops S oi v a → S w →
   wpAnyZ P md ops Q S z fuel (listed.setIfInBounds i true) (a.put oi.dst v) w → wpAnyZ P md ops Q S z (fuel + 1) listed a w := by
 intro fuel
 induction fuel with
 | zero =>
  intro listed a w hu _ hr hy hS H
  refine ⟨fun h => (by rw [h] at hr; cases hr), fun j hj => ?_⟩
  by_cases hji : j = i
  ·subst hji; exact hy.wpOp hi hS ⟨fun _ => hS, H⟩
  ·have := ready_mono hj hji
   rw [H.1] at this
   cases this
 | succ fuel ih =>
  intro listed a w hu hfree hr hy hS H
  refine ⟨fun h => (by rw [h] at hr; cases hr), fun j hj => ?_⟩
  by_cases hji : j = i
  ·subst hji; exact hy.wpOp hi hS ⟨fun _ => hS, H⟩
  ·have hjz : j ≠ z := fun e => chain_wait hc (hu q List.mem_cons_self) (e ▸ hj)
   have h1 := H.2 j (ready_mono hj hji)
   obtain ⟨hjun, oj, hoj, hall⟩ := mem_ready.1 hj
   have hnot : ∀ e ∈ oj.after, Region.binds md e = true → e.on ≠ i := fun e he hb heq => by
    have h1 := hall e he hb
    have h0 := (mem_ready.1 hr).1
    rw [heq] at h1
    rcases Nat.lt_or_ge i listed.size with h' | h'
    ·simp [h'] at h0 h1; rw [h0] at h1; cases h1
    ·simp [Array.getElem?_eq_none h'] at h1
   have h2 := wpOp_putIf hoj (hfree j oj hoj hji hjun hnot) (fun cs b => hsel i oi cs b hi) (fun cs b => hsel j oj cs b hoj) hQ hy h1
   have hfree' : ∀ k ok, ops[k]? = some ok → k ≠ i → (listed.setIfInBounds j true).getD k true = false →
     (∀ e ∈ ok.after, Region.binds md e = true → e.on ≠ i) → oi.apart ops ok = true := fun k ok hk hki hun hno => by
    refine hfree k ok hk hki ?_ hno
    by_cases hjk : j = k
    ·subst hjk; exact hjun
    ·rw [getD_set_ne true hjk] at hun; exact hun
   have hu' : ∀ p ∈ q :: ps, (listed.setIfInBounds j true).getD p true = false := fun p hp => by
    have hjp : j ≠ p := fun e => chain_mid (q :: ps) z hc hu p hp (fun e' => hji (e.trans e')) (e ▸ hj)
    rw [getD_set_ne true hjp]
    exact hu p hp
   refine wpOp_mono (fun a' w' h3 => ⟨fun _ => h3.2.1 hjz, ih (listed.setIfInBounds j true) a' w' hu' hfree' (ready_mono hr (Ne.symm hji)) h3.1 (h3.2.1 hjz) ?_⟩) h2
   rw [Array.setIfInBounds_comm _ _ hji]
   exact h3.2.2
theorem wpAnyZ_take {i : Nat} {oi : Oper} {v : Value} {fuel : Nat} {listed : Array Bool} {a : Act} {w : World} (q : Nat) (ps : List Nat) (hi : ops[i]? = some oi)
  (hs : Region.noSelect ops = true) (hf : Region.free md ops listed i = true) (hr : (Region.ready md ops listed).contains i = true)
  (hc : chainB md ops i z (q :: ps) = true) (hu : (q :: ps).all (fun p => !listed.getD p true) = true)
  (hQ : ∀ c a w, Q (.panic c) (a.put oi.dst v) w → Q (.panic c) a w) (hy : YieldsIf P ops S oi v a) (hS : S w)
  (h : wpAnyZ P md ops Q S z fuel (listed.setIfInBounds i true) (a.put oi.dst v) w) : wpAnyZ P md ops Q S z (fuel + 1) listed a w :=
 wpAnyZ_first hi (Region.noSelect_spec hs) hQ hc fuel listed a w (fun p hp => by have := List.all_eq_true.1 hu p hp; simpa using this) (Region.free_spec hi hf) (by simpa using hr) hy hS h
def AllReadyZ (P : Program) (md : Region.Mode) (ops : Array Oper) (Q : Exit → Act → World → Prop) (S : World → Prop) (z fuel : Nat) (listed : Array Bool) (a : Act) (w : World) (rs : List Nat) : Prop :=
 ∀ i ∈ rs, wpOp P ops Q i (fun a' w' => (i ≠ z → S w') ∧ wpAnyZ P md ops Q S z fuel (listed.setIfInBounds i true) a' w') a w
theorem AllReadyZ.nil {fuel : Nat} {listed : Array Bool} {a : Act} {w : World} : AllReadyZ P md ops Q S z fuel listed a w [] := fun _ h => by cases h
theorem AllReadyZ.cons {fuel : Nat} {listed : Array Bool} {a : Act} {w : World} {i : Nat} {o : Oper} {rs : List Nat} (ho : ops[i]? = some o)
  (h : ∀ K' : Act → World → Prop, Shut (∀ a w, S w → (S w → wpAnyZ P md ops Q S z fuel (listed.setIfInBounds i true) a w) → K' a w) → if Region.wanted o (yielded ops a.tmps) = true then Oper.wp P o a w K' Q else K' (a.put o.dst undef) w)
  (hs : AllReadyZ P md ops Q S z fuel listed a w rs) : AllReadyZ P md ops Q S z fuel listed a w (i :: rs) := fun j hj => by
 rcases List.mem_cons.1 hj with rfl | hj
 ·exact wpOp_step ho (fun K' hK => h K' (fun a w hS hW => hK a w ⟨fun _ => hS, hW hS⟩))
 ·exact hs j hj
theorem AllReadyZ.last {fuel : Nat} {listed : Array Bool} {a : Act} {w : World} {o : Oper} (ho : ops[z]? = some o)
  (h : ∀ K' : Act → World → Prop, Shut (∀ a w, wpAnyZ P md ops Q S z fuel (listed.setIfInBounds z true) a w → K' a w) → if Region.wanted o (yielded ops a.tmps) = true then Oper.wp P o a w K' Q else K' (a.put o.dst undef) w) :
  AllReadyZ P md ops Q S z fuel listed a w [z] := fun j hj => by
 rcases List.mem_cons.1 hj with rfl | hj
 ·exact wpOp_step ho (fun K' hK => h K' (fun a w hW => hK a w ⟨fun e => absurd rfl e, hW⟩))
 ·cases hj
theorem wpAnyZ_ready {rs : List Nat} {fuel : Nat} {listed : Array Bool} {a : Act} {w : World} (hr : Region.ready md ops listed = rs) (hne : rs ≠ [])
  (h : AllReadyZ P md ops Q S z fuel listed a w rs) : wpAnyZ P md ops Q S z (fuel + 1) listed a w := ⟨fun h0 => absurd (hr ▸ h0) hne, hr ▸ h⟩
theorem wpAnyZ_done {listed : Array Bool} {a : Act} {w : World} (hr : Region.ready md ops listed = []) (h : Q .normal a w) :
  ∀ fuel, wpAnyZ P md ops Q S z fuel listed a w
 | 0 => ⟨hr, h⟩
 | _ + 1 => ⟨fun _ => h, by rw [hr]; simp⟩
theorem wp_region_z {id : Nat} {a : Act} {w : World} (z : Nat) (S : World → Prop) (hm : P.follows .mixedOrders = true) (hS : S w.drew)
  (h : S w.drew → wpAnyZ P .any ops Q S z ops.size (Array.replicate ops.size false) a w.drew) : (Code.region id ops true).wp P Q a w :=
 wp_region_any hm (wpAny_of_z _ _ _ _ (h hS))
end
end Go.Proofs.YtbljfphdghfkfaaGreatDoor

/- A model that is being made: one element of one of its rows turns. -/
namespace Go.Proofs.YtbljfphdghfkfaaGreatDoor
open Go.RowKit
theorem owns_set {w : World} {B : Nat} {e : TypeId} {size n g o : Nat} {v u : Value} {xs : List Value} (h : w.ownsRow B e size v n xs) (hv : v.ownBlock = some g) : (w.setCell ⟨g, o, none⟩ u).ownsRow B e size v n (xs.set o u) := by
 obtain ⟨hl, ⟨rfl, _⟩ | ⟨g', cap, cur, rfl, hg, hc, h1, h2, h3, h4⟩⟩ := h
 ·simp [Value.ownBlock] at hv
 ·simp [Value.ownBlock] at hv
  subst hv
  obtain ⟨hlt, hx⟩ := Array.getElem?_eq_some_iff.1 hc
  refine ⟨by simp [hl], .inr ⟨g', cap, cur.setIfInBounds o u, rfl, hg, ?_, h1, h2, by simp [h3], ?_⟩⟩
  ·simp [World.setCell, hlt, Array.getElem_modify, hx]
  ·rw [← h4, Array.toList_setIfInBounds, List.take_set]
theorem owns_some {w : World} {B : Nat} {e : TypeId} {size n : Nat} {v : Value} {xs : List Value} (h : w.ownsRow B e size v n xs) (hn : 0 < n) : ∃ g cap, v = .slice (some ⟨g, 0, none⟩) n cap ∧ B ≤ g ∧ (∀ j, j < n * size → w.cell? ⟨g, j, none⟩ = xs[j]?) ∧ ∀ j, w.frozen? ⟨g, j, none⟩ = false := by
 obtain ⟨hl, ⟨rfl, h0⟩ | ⟨g, cap, cur, rfl, hg, hc, h1, h2, h3, h4⟩⟩ := h
 ·omega
 ·refine ⟨g, cap, rfl, hg, fun j hj => ?_, fun j => by simp [World.frozen?, hc]⟩
  rw [← h4, List.getElem?_take_of_lt hj]
  simp [World.cell?, hc]
theorem intCells_set (l : List Int) (j : Nat) (z : Int) : intCells (l.set j z) = (intCells l).set j (.int .i64 z) := by simp [intCells, List.map_set]
theorem cellsL_set0 (e : Ev) (l : List Ev) (t : Int) : (cellsL (e :: l)).set 0 (.int .i64 t) = cellsL (⟨t, e.s, e.q, e.d, e.k, e.v, e.g⟩ :: l) := by simp [cellsL, Ev.cs]
theorem cellsL_set2 (e : Ev) (l : List Ev) (q : Int) : (cellsL (e :: l)).set 2 (.int .i64 q) = cellsL (⟨e.t, e.s, q, e.d, e.k, e.v, e.g⟩ :: l) := by simp [cellsL, Ev.cs]
theorem MB.setI {w : World} {B Rb Mb g : Nat} {m : Md} {vi vh vs : Value} {us : List Value} (h : MB w B Rb Mb m vi vh vs us) (hv : vi.ownBlock = some g) (j : Nat) (z : Int) : MB (w.setCell ⟨g, j, none⟩ (.int .i64 z)) B Rb Mb ⟨m.n, m.s, m.i.set j z, m.h, m.e, m.z⟩ vi vh vs us := by
 have ht := put1_turns w g j (.int .i64 z)
 refine ⟨h.ne, h.r.turns ht (fun e => owns_ne h.i h.r (by decide) (by rw [hv, ← e])), h.b.turns ht (fun e => owns_ne h.i h.b (by decide) (by rw [hv, ← e])), ?_, owns_turns h.h ht (fun k hk e => owns_apart h.i h.h (by decide) hv (e ▸ hk)), h.u.turns ht (fun i k hi hk e => owns_apart h.i (h.u.2.1 i hi) (by decide) hv (e ▸ hk)), owns_turns h.e ht (fun k hk e => owns_apart h.i h.e (by decide) hv (e ▸ hk))⟩
 have := owns_set (u := .int .i64 z) h.i hv (o := j)
 rw [← intCells_set] at this
 simpa using this
theorem MB.setE {w : World} {B Rb Mb g : Nat} {m : Md} {vi vh vs : Value} {us : List Value} {l : List Ev} {o : Nat} {u : Value} (h : MB w B Rb Mb m vi vh vs us) (hv : vs.ownBlock = some g) (hl : l.length = m.e.length) (hc : (cellsL m.e).set o u = cellsL l) : MB (w.setCell ⟨g, o, none⟩ u) B Rb Mb ⟨m.n, m.s, m.i, m.h, l, m.z⟩ vi vh vs us := by
 have ht := put1_turns w g o u
 refine ⟨h.ne, h.r.turns ht (fun e => owns_ne h.e h.r (by decide) (by rw [hv, ← e])), h.b.turns ht (fun e => owns_ne h.e h.b (by decide) (by rw [hv, ← e])), owns_turns h.i ht (fun k hk e => owns_apart h.e h.i (by decide) hv (e ▸ hk)), owns_turns h.h ht (fun k hk e => owns_apart h.e h.h (by decide) hv (e ▸ hk)), h.u.turns ht (fun i k hi hk e => owns_apart h.e (h.u.2.1 i hi) (by decide) hv (e ▸ hk)), ?_⟩
 have := owns_set (u := u) (o := o) h.e hv
 rw [hc] at this
 rw [hl]
 exact this
theorem MB.setH {w w3 : World} {B Rb Mb g : Nat} {m : Md} {vi vh vs v3 : Value} {us : List Value} {r : List O} (h : MB w B Rb Mb m vi vh vs us) (hv : vh.ownBlock = some g) (hn : 0 < m.h.length) (ho : w3.ownsRow B 39 4 v3 r.length (cellsO r)) (hg : w.grownBy w3 (uAt us 0).ownBlock) (hw : NewRow w (uAt us 0) v3) : MB (w3.setCell ⟨g, 0, none⟩ v3) B Rb Mb ⟨m.n, m.s, m.i, m.h.set 0 r, m.e, m.z⟩ vi vh vs (us.set 0 v3) := by
 have ht := grown_turns hg
 have u0 := h.u.2.1 0 hn
 have r3 := h.r.turns ht (owns_ne u0 h.r (by decide))
 have b3 := h.b.turns ht (owns_ne u0 h.b (by decide))
 have i3 := owns_turns h.i ht (fun k hk e => owns_apart u0 h.i (by decide) e hk)
 have h3 := owns_turns h.h ht (fun k hk e => owns_apart u0 h.h (by decide) e hk)
 have e3 := owns_turns h.e ht (fun k hk e => owns_apart u0 h.e (by decide) e hk)
 have q3 : ∀ i, 0 < i → i < m.h.length → w3.ownsRow B 39 4 (uAt us i) (hAt m.h i).length (cellsO (hAt m.h i)) := fun i hi hi2 => owns_turns (h.u.2.1 i hi2) ht (fun k hk e => h.u.2.2 0 i k hi hi2 e hk)
 have hp := put1_turns w3 g 0 v3
 have hul : us.length = m.h.length := h.u.1
 refine ⟨h.ne, r3.turns hp (fun e => owns_ne h3 r3 (by decide) (by rw [hv, ← e])), b3.turns hp (fun e => owns_ne h3 b3 (by decide) (by rw [hv, ← e])), owns_turns i3 hp (fun k hk e => owns_apart h3 i3 (by decide) hv (e ▸ hk)), ?_, ?_, owns_turns e3 hp (fun k hk e => owns_apart h3 e3 (by decide) hv (e ▸ hk))⟩
 ·have := owns_set (u := v3) h3 hv (o := 0)
  simpa using this
 ·refine ⟨by simp [hul], fun i hi => ?_, fun i j k hij hj hk => ?_⟩
  ·have hi' : i < m.h.length := by simpa using hi
   by_cases h0 : i = 0
   ·subst h0
    rw [show uAt (us.set 0 v3) 0 = v3 by simp [uAt, hul, hn], show hAt (m.h.set 0 r) 0 = r by simp [hAt, hn]]
    exact owns_turns ho hp (fun k hk e => owns_apart h3 ho (by decide) hv (e ▸ hk))
   ·rw [show uAt (us.set 0 v3) i = uAt us i by simp [uAt, Ne.symm h0], show hAt (m.h.set 0 r) i = hAt m.h i by simp [hAt, Ne.symm h0]]
    exact owns_turns (q3 i (by omega) hi') hp (fun k hk e => owns_apart h3 (q3 i (by omega) hi') (by decide) hv (e ▸ hk))
  ·have hj' : j < m.h.length := by simpa using hj
   have hj0 : ¬ j = 0 := by omega
   rw [show uAt (us.set 0 v3) j = uAt us j by simp [uAt, Ne.symm hj0]]
   by_cases h0 : i = 0
   ·subst h0
    rw [show uAt (us.set 0 v3) 0 = v3 by simp [uAt, hul, hn]] at hk
    rcases hw with e | e
    ·rw [e] at hk
     exact h.u.2.2 0 j k (by omega) hj' hk
    ·intro hk2
     have h1 := e k hk
     have h2 := owns_lt (h.u.2.1 j hj') hk2
     omega
   ·rw [show uAt (us.set 0 v3) i = uAt us i by simp [uAt, Ne.symm h0]] at hk
    exact h.u.2.2 i j k hij hj' hk
def Tiny (m : Md) : Prop := m.i.length ≤ 10 ∧ m.h.length ≤ 10 ∧ (∀ j, (hAt m.h j).length ≤ 10) ∧ m.e.length ≤ 10
theorem sumL_le (f : Nat → Nat) (b : Nat) (h : ∀ j, f j ≤ b) : ∀ n, sumL f n ≤ n * b
 | 0 => by simp [sumL]
 | n + 1 => by
  have h1 := sumL_le f b h n
  have h2 := h n
  simp only [sumL, Nat.add_mul, Nat.one_mul]
  omega
theorem Tiny.small {m : Md} (h : Tiny m) : SmallM m := by
 obtain ⟨h1, h2, h3, h4⟩ := h
 refine ⟨by omega, by omega, fun j => by have := h3 j; omega, ?_, by omega⟩
 have h5 := sumL_le (lens m.h) 10 h3 m.h.length
 omega
theorem tiny_ok {m : Md} (h : m.ok = true) : Tiny m := by
 simp only [Md.ok, Bool.and_eq_true, decide_eq_true_eq] at h
 obtain ⟨⟨⟨hd, _⟩, hh⟩, _⟩ := h
 obtain ⟨a1, a2, a3, a4, a5, a6, a7, a8, a9, a10⟩ := hd
 refine ⟨by omega, by omega, fun j => ?_, by omega⟩
 by_cases hj : j < m.h.length
 ·have h1 := List.all_eq_true.1 hh j (by simpa using hj)
  simp only [rowB, Bool.and_eq_true, decide_eq_true_eq] at h1
  omega
 ·rw [show hAt m.h j = [] by simp [hAt, List.getElem?_eq_none (Nat.le_of_not_lt hj)]]
  simp
theorem ok_rows8 {m : Md} (h : m.ok = true) (j : Nat) : (hAt m.h j).length ≤ 8 := by
 simp only [Md.ok, Bool.and_eq_true, decide_eq_true_eq] at h
 obtain ⟨⟨_, hh⟩, _⟩ := h
 by_cases hj : j < m.h.length
 ·have h1 := List.all_eq_true.1 hh j (by simpa using hj)
  simp only [rowB, Bool.and_eq_true, decide_eq_true_eq] at h1
  omega
 ·rw [show hAt m.h j = [] by simp [hAt, List.getElem?_eq_none (Nat.le_of_not_lt hj)]]
  simp
theorem tiny_setH {m : Md} {r : List O} (h : Tiny m) (hn : 0 < m.h.length) (hr : r.length ≤ 10) : Tiny ⟨m.n, m.s, m.i, m.h.set 0 r, m.e, m.z⟩ := by
 refine ⟨h.1, by simpa using h.2.1, fun j => ?_, h.2.2.2⟩
 show (hAt (m.h.set 0 r) j).length ≤ 10
 by_cases hj : j = 0
 ·subst hj
  rw [show hAt (m.h.set 0 r) 0 = r by simp [hAt, hn]]
  exact hr
 ·rw [show hAt (m.h.set 0 r) j = hAt m.h j by simp [hAt, Ne.symm hj]]
  exact h.2.2.1 j
theorem us0 {us : List Value} (h : 0 < us.length) : us[0]? = some (uAt us 0) := by simp [uAt, h]
end Go.Proofs.YtbljfphdghfkfaaGreatDoor

