/- OkI, MOk, EPure, EEff, VBase, VOk -/
import Derived.Test.YtbljfphdghfkfaaGreatDoorSequencesCardG00
import Derived.Test.YtbljfphdghfkfaaGreatDoorSequencesCardLMOpM
import Derived.Test.YtbljfphdghfkfaaGreatDoorSequencesCardG01
import Derived.Test.YtbljfphdghfkfaaGreatDoorSequencesCardLOkS
import Derived.Test.YtbljfphdghfkfaaGreatDoorSequencesCardLNRow
import Derived.Laws.OwnMore
import Derived.Test.YtbljfphdghfkfaaGreatDoorRows
import Derived.WalkKit
import Derived.WalkSpells
import Derived.WalkLawsBesides
import Derived.Outline
import Derived.Below
import Derived.BigRegion
/- The program's EventOk. -/
namespace Go.Proofs.YtbljfphdghfkfaaGreatDoor
open Go.RowKit
set_option maxHeartbeats 2000000 in
theorem iOk_any (t s q d k v g : Int) (w : World) :
  Calls Tryz.prog 66 #[.agg #[.int .i64 t, .int .i64 s, .int .i64 q, .int .i64 d, .int .i64 k, .int .i64 v, .int .i64 g]] w fun e w' =>
   e = .returned (.bool (okB t s q d k v g)) ∧ Below w.heap.size w w' := by
 go_enter Tryz.func66, Tryz.ntmps66
 go_wp2
 all_goals
  go_ret
  refine ⟨?_, (Below.refl _ _).alloc (Nat.le_refl _) _⟩
  first | exact ret_dec (by simp [okB]; omega) | exact ret_bool (by simp [okB]; omega)
end Go.Proofs.YtbljfphdghfkfaaGreatDoor

/- ModelOk, as plain words. -/
namespace Go.Proofs.YtbljfphdghfkfaaGreatDoor
open Go.RowKit
def Md.hd (m : Md) : Prop := 1 ≤ m.n ∧ m.n ≤ 4 ∧ 0 ≤ m.s ∧ m.s ≤ 65535 ∧ (m.i.length : Int) = m.n ∧ 1 ≤ m.h.length ∧ m.h.length ≤ 4 ∧ m.e.length ≤ 6 ∧ 0 ≤ m.z ∧ m.z ≤ 950
instance (m : Md) : Decidable m.hd := by unfold Md.hd; infer_instance
def inB (x : Int) : Bool := decide (0 ≤ x ∧ x ≤ 999)
def Md.okI (m : Md) : Bool := (List.range m.i.length).all fun j => inB (intAt m.i j)
def rowB (m : Md) (r : List O) : Bool := decide (r.length ≤ 8) && (List.range r.length).all fun q => (oAt r q).ok m.n m.h.length
def Md.okH (m : Md) : Bool := (List.range m.h.length).all fun j => rowB m (hAt m.h j)
def stB (m : Md) (j : Nat) (e : Ev) : Bool := e.ok && decide (e.s = -1 ∧ e.q = (j : Int) ∧ e.g = (j : Int) ∧ e.d < m.n ∧ e.k < (m.h.length : Int) ∧ e.t ≤ m.z)
def Md.okE (m : Md) : Bool := (List.range m.e.length).all fun j => stB m j (evAt m.e j)
def Md.ok (m : Md) : Bool := decide m.hd && m.okI && m.okH && m.okE
theorem range_no {n : Nat} {f : Nat → Bool} {k : Nat} (hk : k < n) (h : f k = false) : (List.range n).all f = false := by
 rw [List.all_eq_false]; exact ⟨k, by simpa using hk, by simp [h]⟩
theorem range_yes {n : Nat} {f : Nat → Bool} (h : ∀ k, k < n → f k = true) : (List.range n).all f = true := by
 rw [List.all_eq_true]; intro k hk; exact h k (by simpa using hk)
theorem ok_yes {m : Md} (h : m.hd) (hi : m.okI = true) (hh : m.okH = true) (he : m.okE = true) : m.ok = true := by simp [Md.ok, h, hi, hh, he]
end Go.Proofs.YtbljfphdghfkfaaGreatDoor

/- What an event does, as plain values: emits, a part's turn, its ops one behind the other. -/
namespace Go.Proofs.YtbljfphdghfkfaaGreatDoor
open Go.RowKit
structure Tn where
 a : Int
 b : Int
 q : Int
 d : Int
 s : List Ev
 x : List Em
def Tn.reg (t : Tn) (i : Int) : Int := if i = 0 then t.a else t.b
def Tn.put (t : Tn) (i z : Int) : Tn := if i = 0 then { t with a := z } else { t with b := z }
def sentE (e : Ev) (o : O) (t : Tn) : Ev := ⟨e.t + o.b, e.d, t.q, o.a, o.k, t.a, 0⟩
def passes (o : O) (t : Tn) : Nat := if o.c = 3 ∧ t.reg o.a < o.b then o.k.toNat else 0
def stepO (sd : Int) (v : List Int) (e : Ev) (o : O) (t : Tn) : Tn :=
 if o.c = 0 then t.put o.a ((t.reg o.a + o.b) % 1000)
 else if o.c = 1 then t.put o.a ((t.reg o.a + e.v) % 1000)
 else if o.c = 2 then { t with s := t.s ++ [sentE e o t], q := t.q + 1 }
 else if o.c = 6 then { t.put o.a (randI sd e.d t.d % o.b) with d := t.d + 1 }
 else if o.c = 4 then t.put o.b (intAt v o.a.toNat)
 else if o.c = 5 then { t with x := t.x ++ [⟨e.t, e.d, t.reg o.a⟩] }
 else t
inductive Res where
 | asks (k : Int)
 | done (t : Tn)
def waitsO (v : List Int) (o : O) : Prop := o.c = 4 ∧ intAt v o.a.toNat < 0
instance (v : List Int) (o : O) : Decidable (waitsO v o) := by unfold waitsO; infer_instance
def run (sd : Int) (v : List Int) (e : Ev) (l : List O) : Nat → Nat → Tn → Res
 | 0, _, t => .done t
 | f + 1, i, t =>
  if i < l.length then
   if waitsO v (oAt l i) then .asks (oAt l i).a else run sd v e l f (i + 1 + passes (oAt l i) t) (stepO sd v e (oAt l i) t)
  else .done t
theorem run_end {sd : Int} {v : List Int} {e : Ev} {l : List O} {f i : Nat} {t : Tn} (h : ¬ i < l.length) : run sd v e l f i t = .done t := by
 cases f with
 | zero => rfl
 | succ f => simp [run, h]
theorem run_asks {sd : Int} {v : List Int} {e : Ev} {l : List O} {f i : Nat} {t : Tn} (hf : l.length ≤ i + f) (h : i < l.length) (hw : waitsO v (oAt l i)) : run sd v e l f i t = .asks (oAt l i).a := by
 cases f with
 | zero => omega
 | succ f => simp [run, h, hw]
theorem run_step {sd : Int} {v : List Int} {e : Ev} {l : List O} {f i : Nat} {t : Tn} {R : Res} (hf : l.length ≤ i + f) (h : i < l.length) (hw : ¬ waitsO v (oAt l i)) (hR : run sd v e l f i t = R) :
  ∃ f', l.length ≤ i + 1 + passes (oAt l i) t + f' ∧ run sd v e l f' (i + 1 + passes (oAt l i) t) (stepO sd v e (oAt l i) t) = R := by
 cases f with
 | zero => omega
 | succ f => exact ⟨f, by omega, by simpa [run, h, hw] using hR⟩
structure GoodT (t : Tn) (i : Nat) : Prop where
 a0 : 0 ≤ t.a
 a1 : t.a ≤ 999
 b0 : 0 ≤ t.b
 b1 : t.b ≤ 999
 q0 : 0 ≤ t.q
 q1 : t.q ≤ 99992 + i
 d0 : 0 ≤ t.d
 d1 : t.d ≤ 99992 + i
 s1 : t.s.length ≤ i
 x1 : t.x.length ≤ i
theorem GoodT.mono {t : Tn} {i j : Nat} (h : GoodT t i) (hij : i ≤ j) : GoodT t j :=
 ⟨h.a0, h.a1, h.b0, h.b1, h.q0, by have := h.q1; omega, h.d0, by have := h.d1; omega, by have := h.s1; omega, by have := h.x1; omega⟩
theorem GoodT.put {t : Tn} {i : Nat} (h : GoodT t i) (r z : Int) (h0 : 0 ≤ z) (h1 : z ≤ 999) : GoodT (t.put r z) i := by
 unfold Tn.put
 split
 ·exact ⟨h0, h1, h.b0, h.b1, h.q0, h.q1, h.d0, h.d1, h.s1, h.x1⟩
 ·exact ⟨h.a0, h.a1, h0, h1, h.q0, h.q1, h.d0, h.d1, h.s1, h.x1⟩
theorem GoodT.reg {t : Tn} {i : Nat} (h : GoodT t i) (r : Int) : 0 ≤ t.reg r ∧ t.reg r ≤ 999 := by
 unfold Tn.reg
 split
 ·exact ⟨h.a0, h.a1⟩
 ·exact ⟨h.b0, h.b1⟩
theorem GoodT.step {sd : Int} {v : List Int} {e : Ev} {o : O} {t : Tn} {i : Nat} {n len : Int} (h : GoodT t i) (ho : o.ok n len = true) (hv : o.c = 4 → 0 ≤ intAt v o.a.toNat ∧ intAt v o.a.toNat ≤ 1) : GoodT (stepO sd v e o t) (i + 1) := by
 have hm := h.mono (Nat.le_succ i)
 have hok : okO n len o.c o.a o.b o.k = true := ho
 simp only [okO, decide_eq_true_eq] at hok
 unfold stepO
 split
 ·exact hm.put _ _ (by omega) (by omega)
 ·split
  ·exact hm.put _ _ (by omega) (by omega)
  ·split
   ·exact ⟨h.a0, h.a1, h.b0, h.b1, by have := h.q0; show 0 ≤ t.q + 1; omega, by have := h.q1; show t.q + 1 ≤ _; omega, h.d0, by have := h.d1; show t.d ≤ _; omega, by have := h.s1; simp; omega, by have := h.x1; show t.x.length ≤ _; omega⟩
   ·split
    ·rename_i h6
     have hb : 1 ≤ o.b ∧ o.b ≤ 999 := by omega
     have hp := h.put o.a (randI sd e.d t.d % o.b) (Int.emod_nonneg _ (by omega)) (by have := Int.emod_lt_of_pos (randI sd e.d t.d) (show 0 < o.b by omega); omega)
     have hd : (t.put o.a (randI sd e.d t.d % o.b)).d = t.d := by unfold Tn.put; split <;> rfl
     exact ⟨hp.a0, hp.a1, hp.b0, hp.b1, hp.q0, by have := hp.q1; show (t.put o.a (randI sd e.d t.d % o.b)).q ≤ _; omega, by have := h.d0; show 0 ≤ t.d + 1; omega, by have := h.d1; show t.d + 1 ≤ _; omega, by have := hp.s1; show (t.put o.a (randI sd e.d t.d % o.b)).s.length ≤ _; omega, by have := hp.x1; show (t.put o.a (randI sd e.d t.d % o.b)).x.length ≤ _; omega⟩
    ·split
     ·rename_i h4
      have := hv h4
      exact hm.put _ _ this.1 (by omega)
     ·split
      ·exact ⟨h.a0, h.a1, h.b0, h.b1, h.q0, hm.q1, h.d0, hm.d1, hm.s1, by have := h.x1; simp; omega⟩
      ·exact hm
end Go.Proofs.YtbljfphdghfkfaaGreatDoor

/- An effect that grows: its cells behind others in one block, its registers, what is sent and told in rows of one's own. -/
namespace Go.Proofs.YtbljfphdghfkfaaGreatDoor
open Go.RowKit
theorem own_typed {w : World} {B : Nat} {T : TypeId} {c n k : Nat} {v : Value} {cs : List Value} (h : w.ownsRow B T c v n cs) (hk : v.ownBlock = some k) : ∃ cur, w.heap[k]? = some (.cells cur T) := by
 obtain ⟨hl, ⟨rfl, h0⟩ | ⟨g, cap, cur, rfl, hg, hc, _⟩⟩ := h
 ·cases hk
 ·cases hk
  exact ⟨cur, hc⟩
theorem own_apart {w : World} {B B' : Nat} {T T' : TypeId} {c c' n n' : Nat} {v v' : Value} {cs cs' : List Value} (h : w.ownsRow B T c v n cs) (h' : w.ownsRow B' T' c' v' n' cs') (hT : T ≠ T') : v.ownBlock = none ∨ v.ownBlock ≠ v'.ownBlock := by
 cases hv : v.ownBlock with
 | none => exact .inl rfl
 | some k =>
  refine .inr (fun e => ?_)
  obtain ⟨cur, hc⟩ := own_typed h hv
  obtain ⟨cur', hc'⟩ := own_typed h' e.symm
  rw [hc] at hc'
  cases hc'
  exact hT rfl
theorem own_off {w : World} {B P : Nat} {T T' : TypeId} {c n : Nat} {v : Value} {cs : List Value} {vs : Array Value} (h : w.ownsRow B T c v n cs) (hP : Bk w P T' vs) (hT : T ≠ T') : v.ownBlock = none ∨ v.ownBlock ≠ some P := by
 cases hv : v.ownBlock with
 | none => exact .inl rfl
 | some k =>
  refine .inr (fun e => ?_)
  cases e
  obtain ⟨cur, hc⟩ := own_typed h hv
  have hP' : w.heap[P]? = some (.cells vs T') := hP
  rw [hc] at hP'
  cases hP'
  exact hT rfl
theorem Bk.grown {w w' : World} {P : Nat} {T : TypeId} {vs : Array Value} {row : Option Nat} (h : Bk w P T vs) (hg : w.grownBy w' row) (hne : some P ≠ row) : Bk w' P T vs := (hg.block P h.lt hne).trans h
theorem Bk.off {w : World} {B P : Nat} {T T' : TypeId} {c n : Nat} {v : Value} {cs : List Value} {vs : Array Value} (hP : Bk w P T' vs) (h : w.ownsRow B T c v n cs) (hT : T ≠ T') : some P ≠ v.ownBlock := by
 rcases own_off h hP hT with e | e
 ·rw [e]; simp
 ·exact fun e' => e e'.symm
theorem set_pre (pre l : List Value) (i : Nat) (u : Value) : (pre ++ l).toArray.setIfInBounds (pre.length + i) u = (pre ++ l.set i u).toArray := by
 rw [List.setIfInBounds_toArray, List.set_append_right _ _ (by omega)]
 simp
abbrev vReg (g cap : Nat) : Value := .slice (some ⟨g, 0, none⟩) 2 cap
structure Eff (B : Nat) (w : World) (P : Nat) (T : TypeId) (pre : List Value) (t : Tn) (k : Int) (g cap : Nat) (us ux : Value) : Prop where
 lo : B ≤ P
 ty : 3 ≠ T ∧ 53 ≠ T ∧ 108 ≠ T
 blk : Bk w P T (pre ++ [vReg g cap, .int .i64 t.q, .int .i64 t.d, us, ux, .int .i64 k]).toArray
 r : w.ownsRow B 3 1 (vReg g cap) 2 [.int .i64 t.a, .int .i64 t.b]
 s : w.ownsRow B 53 7 us t.s.length (cellsL t.s)
 x : w.ownsRow B 108 3 ux t.x.length (cellsX t.x)
variable {B P : Nat} {w : World} {T : TypeId} {pre : List Value} {t : Tn} {k : Int} {g cap : Nat} {us ux : Value}
theorem Eff.glo (h : Eff B w P T pre t k g cap us ux) : B ≤ g ∧ g < w.heap.size := h.r.lt g rfl
theorem Eff.reg0 (h : Eff B w P T pre t k g cap us ux) : w.cell? ⟨g, 0, none⟩ = some (.int .i64 t.a) := h.r.cellAt 0 (by omega)
theorem Eff.reg1 (h : Eff B w P T pre t k g cap us ux) : w.cell? ⟨g, 1, none⟩ = some (.int .i64 t.b) := h.r.cellAt 1 (by omega)
theorem Eff.free (h : Eff B w P T pre t k g cap us ux) (j : Nat) : w.frozen? ⟨g, j, none⟩ = false := h.r.frozenAt j
theorem Eff.drew (h : Eff B w P T pre t k g cap us ux) : Eff B w.drew P T pre t k g cap us ux := ⟨h.lo, h.ty, h.blk, h.r, h.s, h.x⟩
theorem Eff.alloc (h : Eff B w P T pre t k g cap us ux) (o : Obj) : Eff B (w.alloc o) P T pre t k g cap us ux := ⟨h.lo, h.ty, h.blk.alloc o, h.r.alloc o, h.s.alloc o, h.x.alloc o⟩
theorem Eff.below {w' : World} (h : Eff B w P T pre t k g cap us ux) (hb : Below w.heap.size w w') : Eff B w' P T pre t k g cap us ux := by
 have hg : ∀ row, w.grownBy w' row := fun row => ⟨hb.os, hb.tape, hb.output, hb.size, fun i hi _ => hb.block i hi⟩
 exact ⟨h.lo, h.ty, h.blk.below hb, h.r.kept (hg none) (.inr (by simp [Value.ownBlock])), h.s.kept (hg none) (by cases hv : us.ownBlock with | none => exact .inl rfl | some k => exact .inr (by simp)), h.x.kept (hg none) (by cases hv : ux.ownBlock with | none => exact .inl rfl | some k => exact .inr (by simp))⟩
theorem Eff.putA (h : Eff B w P T pre t k g cap us ux) (z : Int) : Eff B (w.setCell ⟨g, 0, none⟩ (.int .i64 z)) P T pre { t with a := z } k g cap us ux := by
 have hg := setCell_grown w g 0 (.int .i64 z)
 refine ⟨h.lo, h.ty, h.blk.grown hg (h.blk.off h.r h.ty.1), (h.r.stored 0 (.int .i64 z)).1, h.s.kept hg (own_apart h.s h.r (by decide)), h.x.kept hg (own_apart h.x h.r (by decide))⟩
theorem Eff.putB (h : Eff B w P T pre t k g cap us ux) (z : Int) : Eff B (w.setCell ⟨g, 1, none⟩ (.int .i64 z)) P T pre { t with b := z } k g cap us ux := by
 have hg := setCell_grown w g 1 (.int .i64 z)
 refine ⟨h.lo, h.ty, h.blk.grown hg (h.blk.off h.r h.ty.1), (h.r.stored 1 (.int .i64 z)).1, h.s.kept hg (own_apart h.s h.r (by decide)), h.x.kept hg (own_apart h.x h.r (by decide))⟩
theorem Eff.put (h : Eff B w P T pre t k g cap us ux) (i : Nat) (hi : i ≤ 1) (z : Int) : Eff B (w.setCell ⟨g, i, none⟩ (.int .i64 z)) P T pre (t.put i z) k g cap us ux := by
 match i, hi with
 | 0, _ => exact h.putA z
 | 1, _ => exact h.putB z
theorem Eff.reg (h : Eff B w P T pre t k g cap us ux) (i : Nat) (hi : i ≤ 1) : w.cell? ⟨g, i, none⟩ = some (.int .i64 (t.reg i)) := by
 match i, hi with
 | 0, _ => exact h.reg0
 | 1, _ => exact h.reg1
theorem Eff.putQ (h : Eff B w P T pre t k g cap us ux) (z : Int) : Eff B (w.setCell ⟨P, pre.length + 1, none⟩ (.int .i64 z)) P T pre { t with q := z } k g cap us ux := by
 have hg := setCell_grown w P (pre.length + 1) (.int .i64 z)
 refine ⟨h.lo, h.ty, ?_, h.r.kept hg (own_off h.r h.blk h.ty.1), h.s.kept hg (own_off h.s h.blk h.ty.2.1), h.x.kept hg (own_off h.x h.blk h.ty.2.2)⟩
 have := h.blk.put (pre.length + 1) (.int .i64 z)
 rw [set_pre] at this
 exact this
theorem Eff.putD (h : Eff B w P T pre t k g cap us ux) (z : Int) : Eff B (w.setCell ⟨P, pre.length + 2, none⟩ (.int .i64 z)) P T pre { t with d := z } k g cap us ux := by
 have hg := setCell_grown w P (pre.length + 2) (.int .i64 z)
 refine ⟨h.lo, h.ty, ?_, h.r.kept hg (own_off h.r h.blk h.ty.1), h.s.kept hg (own_off h.s h.blk h.ty.2.1), h.x.kept hg (own_off h.x h.blk h.ty.2.2)⟩
 have := h.blk.put (pre.length + 2) (.int .i64 z)
 rw [set_pre] at this
 exact this
theorem Eff.putK (h : Eff B w P T pre t k g cap us ux) (z : Int) : Eff B (w.setCell ⟨P, pre.length + 5, none⟩ (.int .i64 z)) P T pre t z g cap us ux := by
 have hg := setCell_grown w P (pre.length + 5) (.int .i64 z)
 refine ⟨h.lo, h.ty, ?_, h.r.kept hg (own_off h.r h.blk h.ty.1), h.s.kept hg (own_off h.s h.blk h.ty.2.1), h.x.kept hg (own_off h.x h.blk h.ty.2.2)⟩
 have := h.blk.put (pre.length + 5) (.int .i64 z)
 rw [set_pre] at this
 exact this
theorem Eff.sent {w1 : World} {us' : Value} {e : Ev} (h : Eff B w P T pre t k g cap us ux) (hown : w1.ownsRow B 53 7 us' (t.s.length + 1) (cellsL t.s ++ e.cs)) (hg : w.grownBy w1 us.ownBlock) :
  Eff B (w1.setCell ⟨P, pre.length + 3, none⟩ us') P T pre { t with s := t.s ++ [e] } k g cap us' ux := by
 have hblk := h.blk.grown hg (h.blk.off h.s h.ty.2.1)
 have hr := h.r.kept hg (own_apart h.r h.s (by decide))
 have hx := h.x.kept hg (own_apart h.x h.s (by decide))
 have hg2 := setCell_grown w1 P (pre.length + 3) us'
 refine ⟨h.lo, h.ty, ?_, hr.kept hg2 (own_off hr hblk h.ty.1), ?_, hx.kept hg2 (own_off hx hblk h.ty.2.2)⟩
 ·have := hblk.put (pre.length + 3) us'
  rw [set_pre] at this
  exact this
 ·have := hown.kept hg2 (own_off hown hblk h.ty.2.1)
  rw [show (t.s ++ [e]).length = t.s.length + 1 from by simp, cellsL_append, show cellsL [e] = e.cs from by simp [cellsL]]
  exact this
theorem Eff.told {w1 : World} {ux' : Value} {e : Em} (h : Eff B w P T pre t k g cap us ux) (hown : w1.ownsRow B 108 3 ux' (t.x.length + 1) (cellsX t.x ++ e.cs)) (hg : w.grownBy w1 ux.ownBlock) :
  Eff B (w1.setCell ⟨P, pre.length + 4, none⟩ ux') P T pre { t with x := t.x ++ [e] } k g cap us ux' := by
 have hblk := h.blk.grown hg (h.blk.off h.x h.ty.2.2)
 have hr := h.r.kept hg (own_apart h.r h.x (by decide))
 have hs := h.s.kept hg (own_apart h.s h.x (by decide))
 have hg2 := setCell_grown w1 P (pre.length + 4) ux'
 refine ⟨h.lo, h.ty, ?_, hr.kept hg2 (own_off hr hblk h.ty.1), hs.kept hg2 (own_off hs hblk h.ty.2.1), ?_⟩
 ·have := hblk.put (pre.length + 4) ux'
  rw [set_pre] at this
  exact this
 ·have := hown.kept hg2 (own_off hown hblk h.ty.2.2)
  rw [show (t.x ++ [e]).length = t.x.length + 1 from by simp, cellsX_append, show cellsX [e] = e.cs from by simp [cellsX]]
  exact this
end Go.Proofs.YtbljfphdghfkfaaGreatDoor

/- Vectors: plain words, and the small functions of both sides. -/
namespace Go.Proofs.YtbljfphdghfkfaaGreatDoor
open Go.RowKit
def numOk (z : Int) : Bool := decide (-1 ≤ z) && decide (z ≤ 1)
def vok (l : List Int) : Bool := l.all numOk && decide (l.length = 4)
theorem numOk_iff {z : Int} : numOk z = true ↔ -1 ≤ z ∧ z ≤ 1 := by simp [numOk]
theorem vok_four {l : List Int} (h : vok l = true) : ∃ a b c d : Int, l = [a, b, c, d] ∧ (-1 ≤ a ∧ a ≤ 1) ∧ (-1 ≤ b ∧ b ≤ 1) ∧ (-1 ≤ c ∧ c ≤ 1) ∧ (-1 ≤ d ∧ d ≤ 1) := by
 simp only [vok, Bool.and_eq_true, decide_eq_true_eq] at h
 obtain ⟨h, hl⟩ := h
 match l, hl with
 | [a, b, c, d], _ =>
  simp only [List.all_cons, List.all_nil, Bool.and_eq_true, numOk_iff] at h
  exact ⟨a, b, c, d, rfl, h.1, h.2.1, h.2.2.1, h.2.2.2.1⟩
end Go.Proofs.YtbljfphdghfkfaaGreatDoor

/- Vectors: VectorOk of both sides, and the program's vectorOf. -/
namespace Go.Proofs.YtbljfphdghfkfaaGreatDoor
open Go.RowKit
theorem intAt_mem {l : List Int} {k : Nat} (h : k < l.length) : intAt l k ∈ l := by
 unfold intAt; rw [List.getD_eq_getElem?_getD, List.getElem?_eq_getElem h]; exact List.getElem_mem h
theorem vok_no {l : List Int} {k : Nat} (hk : k < l.length) (h : intAt l k < -1 ∨ 1 < intAt l k) : vok l = false := by
 have hm := intAt_mem hk
 have : l.all numOk = false := by
  rw [List.all_eq_false]
  exact ⟨_, hm, by simp only [numOk_iff]; omega⟩
 simp [vok, this]
theorem vok_all {l : List Int} (h : ∀ j, j < l.length → -1 ≤ intAt l j ∧ intAt l j ≤ 1) : vok l = decide (l.length = 4) := by
 have : l.all numOk = true := by
  rw [List.all_eq_true]
  intro x hx
  obtain ⟨i, hi, rfl⟩ := List.getElem_of_mem hx
  have := h i hi
  unfold intAt at this
  rw [List.getD_eq_getElem?_getD, List.getElem?_eq_getElem hi] at this
  exact numOk_iff.2 this
 simp [vok, this]
set_option maxHeartbeats 1000000 in
theorem sVok_any (x : Value) (l : List Int) (w : World) (hl : l.length ≤ 4611686018427387904) (h : IsI w x l) :
  Calls Tryz.prog 62 #[x] w fun e w' => e = .returned (.bool (vok l)) ∧ w' = w := by
 obtain ⟨a, cap, rfl, h1, h2, h⟩ := h
 clear h1 h2
 by_cases hz : l = []
 ·subst hz
  clear h
  go_enter Tryz.func62, Tryz.ntmps62
  go_wp2
  go_loop [3] (fun i => i = .int .i64 0) (fun _ => 0)
  case atStart => rfl
  case round =>
   subst hrel
   go_wp2
   go_ret
   exact ⟨ret_bool rfl, rfl⟩
 ·obtain ⟨b, off, rfl, hb, hc⟩ := h.resolve_left hz
  clear h hz
  go_enter Tryz.func62, Tryz.ntmps62
  go_wp2
  go_loop [3] (fun i => ∃ k : Nat, k ≤ l.length ∧ i = .int .i64 k ∧ ∀ j, j < k → -1 ≤ intAt l j ∧ intAt l j ≤ 1) (fun i => l.length - (intOf i).toNat)
  case atStart => exact ⟨0, Nat.zero_le _, rfl, fun j hj => by omega⟩
  case round =>
   obtain ⟨k, hk, rfl, hall⟩ := hrel
   have HA : Hid (∀ j, j < k → -1 ≤ intAt l j ∧ intAt l j ≤ 1) := hall
   clear hall
   by_cases hlt : k < l.length
   ·have f0 := hc k hlt
    have HN : Hid (intAt l k < -1 ∨ 1 < intAt l k → vok l = false) := vok_no hlt
    obtain ⟨z, hz⟩ : ∃ z, z = intAt l k := ⟨_, rfl⟩
    rw [← hz] at f0 HN
    have HZ : Hid (z = intAt l k) := hz
    clear hc hz
    by_cases hz1 : z < -1
    ·go_wp2
     go_ret
     exact ⟨ret_bool (HN.out (.inl hz1)).symm, rfl⟩
    ·by_cases hz2 : 1 < z
     ·go_wp2
      go_ret
      exact ⟨ret_bool (HN.out (.inr hz2)).symm, rfl⟩
     ·go_wp2
      go_round
      case rel => exact ⟨k + 1, by omega, by go_num, fun j hj => by
       by_cases e : j < k
       ·exact HA.out j e
       ·rw [show j = k by omega, ← HZ.out]; omega⟩
      case measure => simp [intOf]; omega
   ·clear hc
    obtain rfl : k = l.length := by omega
    have HV : Hid (vok l = decide (l.length = 4)) := vok_all HA.out
    go_wp2
    go_ret
    refine ⟨ret_bool ?_, rfl⟩
    rw [HV.out]
    by_cases e : l.length = 4
    ·simp [e]
    ·have e2 : ¬ (l.length : Int) = 4 := by omega
     simp [e, e2]
end Go.Proofs.YtbljfphdghfkfaaGreatDoor

