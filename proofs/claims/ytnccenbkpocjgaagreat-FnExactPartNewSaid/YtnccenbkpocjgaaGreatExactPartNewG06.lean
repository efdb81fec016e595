/- CmpS, Quiet, Says, EvOk -/
import Derived.Test.YtnccenbkpocjgaaGreatExactPartNewG02
import Derived.Test.YtnccenbkpocjgaaGreatExactPartNewLOkS
import Derived.Deep.QuietTactic
import Derived.BigQuiet
import Derived.Test.YtnccenbkpocjgaaGreatExactPartNewG03
import Derived.Test.YtnccenbkpocjgaaGreatExactPartNewLEach
import Derived.Test.YtnccenbkpocjgaaGreatExactPartNewG01
/- The specification's l1cmp. -/
namespace Go.Proofs.YtnccenbkpocjgaaGreat
open Go.RowKit
set_option maxHeartbeats 2000000 in
theorem l1cmp_any (t s q d k v g t' s' q' d' k' v' g' : Int) (w : World) :
  Calls Tryz.prog 109 #[.agg #[.int .i64 t, .int .i64 s, .int .i64 q, .int .i64 d, .int .i64 k, .int .i64 v, .int .i64 g], .agg #[.int .i64 t', .int .i64 s', .int .i64 q', .int .i64 d', .int .i64 k', .int .i64 v', .int .i64 g']] w fun e w' =>
   e = .returned (.int .i64 (cmpI t s q g t' s' q' g')) ∧ Below w.heap.size w w' := by
 have hb : ∀ o1 o2 : Obj, Below w.heap.size w ((w.alloc o1).alloc o2) := fun o1 o2 => ((Below.refl _ _).alloc (Nat.le_refl _) o1).alloc (by simp) o2
 by_cases h1 : t = t'
 ·subst h1
  by_cases h2 : s = s'
  ·subst h2
   by_cases h3 : q = q'
   ·subst h3
    go_enter Tryz.func109, Tryz.ntmps109
    go_wp2_with (go_at_call 158; refine (num_any _ _ _).mono ?_; rintro e w' ⟨rfl, rfl⟩)
    go_ret
    exact ⟨ret_int (by simp [cmpI]), hb _ _⟩
   ·have e3 : (q != q') = true := by simpa using h3
    go_enter Tryz.func109, Tryz.ntmps109
    go_wp2_with (go_at_call 158; refine (num_any _ _ _).mono ?_; rintro e w' ⟨rfl, rfl⟩)
    go_ret
    exact ⟨ret_int (by simp [cmpI, h3]), hb _ _⟩
  ·have e2 : (s != s') = true := by simpa using h2
   go_enter Tryz.func109, Tryz.ntmps109
   go_wp2_with (go_at_call 158; refine (num_any _ _ _).mono ?_; rintro e w' ⟨rfl, rfl⟩)
   go_ret
   exact ⟨ret_int (by simp [cmpI, h2]), hb _ _⟩
 ·have e1 : (t != t') = true := by simpa using h1
  go_enter Tryz.func109, Tryz.ntmps109
  go_wp2_with (go_at_call 158; refine (num_any _ _ _).mono ?_; rintro e w' ⟨rfl, rfl⟩)
  go_ret
  exact ⟨ret_int (by simp [cmpI, h1]), hb _ _⟩
end Go.Proofs.YtnccenbkpocjgaaGreat

/- A region that draws its order, whose operations only read and whose callees lay blocks of their own, is walked once, in the order of the text. -/
namespace Go.Proofs.YtnccenbkpocjgaaGreat
open Go.RowKit
structure Beyond (W : World) where
 w : World
 h : Below W.heap.size W w
theorem Beyond.cell {W : World} (p : Beyond W) {b o : Nat} {v : Value} (hb : b < W.heap.size) (h : W.cell? ⟨b, o, none⟩ = some v) : p.w.cell? ⟨b, o, none⟩ = some v := (p.h.cell (p := ⟨b, o, none⟩) hb).trans h
theorem Beyond.of {P : Program} {f : FuncId} {args : Array Value} {W : World} {p : Beyond W} {v : Value} (h : Calls P f args p.w fun e w' => e = .returned v ∧ Below p.w.heap.size p.w w') :
  Calls P f args p.w fun e w'' => e = .returned v ∧ ∃ p' : Beyond W, w'' = p'.w :=
 h.mono fun _ w'' ⟨he, hb⟩ => ⟨he, ⟨w'', p.h.trans (hb.mono p.h.size)⟩, rfl⟩
theorem wp_region_beyond {P : Program} {id : Nat} {Q : Exit → Act → World → Prop} {a : Act} {W : World} {l : List Oper} (hm : P.follows .mixedOrders = true) (hB : Region.lexB .any l.toArray = true)
  (h : wpQuiet P l.toArray (fun w' => ∃ p : Beyond W, w' = p.w) (fun a' => ∀ w', (∃ p : Beyond W, w' = p.w) → Q .normal a' w') l a) : (Code.region id l.toArray true).wp P Q a W :=
 wp_region_quiet (C := fun w' => ∃ p : Beyond W, w' = p.w) hm hB ⟨⟨_, (Below.refl _ W).drew⟩, rfl⟩ (by simpa using h)
theorem EvAt.beyond {W : World} {b o : Nat} {t s q d k v g : Int} (h : EvAt W b o t s q d k v g) (hb : b < W.heap.size) :
  (∀ p : Beyond W, p.w.cell? ⟨b, o, none⟩ = some (.int .i64 t)) ∧ (∀ p : Beyond W, p.w.cell? ⟨b, o + 1, none⟩ = some (.int .i64 s)) ∧ (∀ p : Beyond W, p.w.cell? ⟨b, o + 2, none⟩ = some (.int .i64 q)) ∧ (∀ p : Beyond W, p.w.cell? ⟨b, o + 3, none⟩ = some (.int .i64 d)) ∧
  (∀ p : Beyond W, p.w.cell? ⟨b, o + 4, none⟩ = some (.int .i64 k)) ∧ (∀ p : Beyond W, p.w.cell? ⟨b, o + 5, none⟩ = some (.int .i64 v)) ∧ (∀ p : Beyond W, p.w.cell? ⟨b, o + 6, none⟩ = some (.int .i64 g)) :=
 ⟨fun p => p.cell hb h.f0, fun p => p.cell hb h.f1, fun p => p.cell hb h.f2, fun p => p.cell hb h.f3, fun p => p.cell hb h.f4, fun p => p.cell hb h.f5, fun p => p.cell hb h.f6⟩
end Go.Proofs.YtnccenbkpocjgaaGreat

/- The specification's EventOk and l1cmp of events; what a bool says. -/
namespace Go.Proofs.YtnccenbkpocjgaaGreat
open Go.RowKit
theorem l1cmp_ev (a b : Ev) (z : Int) (h : a.cmp b = z) (w : World) : Calls Tryz.prog 109 #[a.val, b.val] w fun r w' => r = .returned (.int .i64 z) ∧ Below w.heap.size w w' := by
 subst h; exact l1cmp_any _ _ _ _ _ _ _ _ _ _ _ _ _ _ w
end Go.Proofs.YtnccenbkpocjgaaGreat

/- The program's eventsOk. -/
namespace Go.Proofs.YtnccenbkpocjgaaGreat
open Go.RowKit Go.Shelf
attribute [local go_sem] Oper.semAt_some
theorem keepsOthers_of_below {W W' : World} (h : Below W.heap.size W W') : KeepsOthers W W' := ⟨h.size, fun k _ hk _ => (h.block k (Array.getElem?_eq_some_iff.1 hk).1).trans hk⟩
end Go.Proofs.YtnccenbkpocjgaaGreat

