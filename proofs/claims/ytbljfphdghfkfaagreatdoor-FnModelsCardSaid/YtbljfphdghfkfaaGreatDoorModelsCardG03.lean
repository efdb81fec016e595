/- MBox, Kit, Quiet -/
import Derived.Test.YtbljfphdghfkfaaGreatDoorModelsCardG00
import Derived.Deep.QuietTactic
import Derived.BigQuiet
/- A struct in a block of its own. -/
namespace Go.Proofs.YtbljfphdghfkfaaGreatDoor
open Go.RowKit
def Bk (w : World) (P : Nat) (T : TypeId) (vs : Array Value) : Prop := w.heap[P]? = some (.cells vs T)
theorem Bk.lt {w : World} {P : Nat} {T : TypeId} {vs : Array Value} (h : Bk w P T vs) : P < w.heap.size := (Array.getElem?_eq_some_iff.1 h).1
theorem Bk.cell {w : World} {P : Nat} {T : TypeId} {vs : Array Value} (h : Bk w P T vs) {i : Nat} {v : Value} (hv : vs[i]? = some v) : w.cell? ⟨P, i, none⟩ = some v := by
 have h' : w.heap[P]? = some (.cells vs T) := h
 unfold World.cell?
 simp [h', hv]
theorem Bk.free {w : World} {P : Nat} {T : TypeId} {vs : Array Value} (h : Bk w P T vs) (o : Nat) : w.frozen? ⟨P, o, none⟩ = false := by
 have h' : w.heap[P]? = some (.cells vs T) := h
 unfold World.frozen?
 simp [h']
theorem Bk.keep {w w' : World} {B P : Nat} {T : TypeId} {vs : Array Value} (h : Bk w P T vs) (hb : Below B w w') (hB : P < B) : Bk w' P T vs := (hb.block P hB).trans h
theorem Bk.below {w w' : World} {P : Nat} {T : TypeId} {vs : Array Value} (h : Bk w P T vs) (hb : Below w.heap.size w w') : Bk w' P T vs := h.keep hb h.lt
theorem Bk.turns {S : Nat → Prop} {w w' : World} {P : Nat} {T : TypeId} {vs : Array Value} (h : Bk w P T vs) (ht : Turns S w w') (hS : ¬ S P) : Bk w' P T vs := (ht.block P h.lt hS).trans h
theorem Bk.drew {w : World} {P : Nat} {T : TypeId} {vs : Array Value} (h : Bk w P T vs) : Bk w.drew P T vs := h
theorem Bk.new (w : World) (T : TypeId) (vs : Array Value) : Bk (w.alloc (.cells vs T)) w.heap.size T vs := by
 show (w.heap.push _)[w.heap.size]? = _
 simp
theorem Bk.newAt {w : World} {P : Nat} (hP : P = w.heap.size) (T : TypeId) (vs : Array Value) : Bk (w.alloc (.cells vs T)) P T vs := hP ▸ Bk.new w T vs
theorem Bk.alloc {w : World} {P : Nat} {T : TypeId} {vs : Array Value} (h : Bk w P T vs) (o : Obj) : Bk (w.alloc o) P T vs := h.keep ((Below.refl w.heap.size w).alloc (Nat.le_refl _) o) h.lt
theorem Bk.put {w : World} {P : Nat} {T : TypeId} {vs : Array Value} (h : Bk w P T vs) (i : Nat) (v : Value) : Bk (w.setCell ⟨P, i, none⟩ v) P T (vs.setIfInBounds i v) := by
 have h' : w.heap[P]? = some (.cells vs T) := h
 obtain ⟨hl, hv⟩ := Array.getElem?_eq_some_iff.1 h'
 unfold Bk
 simp [World.setCell, hl, Array.getElem_modify, hv]
theorem Bk.other {w : World} {P b : Nat} {T : TypeId} {vs : Array Value} (h : Bk w P T vs) (i : Nat) (v : Value) (hb : P ≠ b) : Bk (w.setCell ⟨b, i, none⟩ v) P T vs :=
 (Below.heap_setCell _ _ _ _ hb).trans h
theorem put1_turns (w : World) (g o : Nat) (u : Value) : Turns (fun b => b = g) w (w.setCell ⟨g, o, none⟩ u) := (Turns.refl (fun b => b = g) w).setCell (p := ⟨g, o, none⟩) rfl _
abbrev put6 (w : World) (R : Nat) (v0 v1 v2 v3 v4 v5 : Value) : World :=
 (((((w.setCell ⟨R, 0, none⟩ v0).setCell ⟨R, 1, none⟩ v1).setCell ⟨R, 2, none⟩ v2).setCell ⟨R, 3, none⟩ v3).setCell ⟨R, 4, none⟩ v4).setCell ⟨R, 5, none⟩ v5
theorem Bk.put6 {w : World} {R : Nat} {T : TypeId} {a0 a1 a2 a3 a4 a5 : Value} (h : Bk w R T #[a0, a1, a2, a3, a4, a5]) (v0 v1 v2 v3 v4 v5 : Value) : Bk (put6 w R v0 v1 v2 v3 v4 v5) R T #[v0, v1, v2, v3, v4, v5] :=
 (((((h.put 0 v0).put 1 v1).put 2 v2).put 3 v3).put 4 v4).put 5 v5
theorem put6_turns (w : World) (R : Nat) (v0 v1 v2 v3 v4 v5 : Value) : Turns (fun b => b = R) w (put6 w R v0 v1 v2 v3 v4 v5) :=
 (((((put1_turns w R 0 v0).trans (put1_turns _ R 1 v1)).trans (put1_turns _ R 2 v2)).trans (put1_turns _ R 3 v3)).trans (put1_turns _ R 4 v4)).trans (put1_turns _ R 5 v5)
end Go.Proofs.YtbljfphdghfkfaaGreatDoor

/- Small facts on worlds, and the order of two events. -/
namespace Go.Proofs.YtbljfphdghfkfaaGreatDoor
open Go.RowKit
def ecmp (t s q d k v g t' s' q' d' k' v' g' : Int) : Int := if okB t s q d k v g = true ∧ okB t' s' q' d' k' v' g' = true then cmpI t s q g t' s' q' g' else 0
theorem bcell {W w1 : World} (hb : Below W.heap.size W w1) : (∀ b o, b < W.heap.size → w1.cell? ⟨b, o, none⟩ = W.cell? ⟨b, o, none⟩) ∧ (∀ b o, b < W.heap.size → w1.frozen? ⟨b, o, none⟩ = W.frozen? ⟨b, o, none⟩) :=
 ⟨fun b o h => hb.cell (p := ⟨b, o, none⟩) h, fun b o h => hb.frozen (p := ⟨b, o, none⟩) h⟩
structure EvAt (w : World) (b o : Nat) (t s q d k v g : Int) : Prop where
 f0 : w.cell? ⟨b, o, none⟩ = some (.int .i64 t)
 f1 : w.cell? ⟨b, o + 1, none⟩ = some (.int .i64 s)
 f2 : w.cell? ⟨b, o + 2, none⟩ = some (.int .i64 q)
 f3 : w.cell? ⟨b, o + 3, none⟩ = some (.int .i64 d)
 f4 : w.cell? ⟨b, o + 4, none⟩ = some (.int .i64 k)
 f5 : w.cell? ⟨b, o + 5, none⟩ = some (.int .i64 v)
 f6 : w.cell? ⟨b, o + 6, none⟩ = some (.int .i64 g)
theorem EvAt.below {w w' : World} {B b o : Nat} {t s q d k v g : Int} (h : EvAt w b o t s q d k v g) (hb : Below B w w') (hlt : b < B) : EvAt w' b o t s q d k v g :=
 ⟨(hb.cell hlt).trans h.f0, (hb.cell hlt).trans h.f1, (hb.cell hlt).trans h.f2, (hb.cell hlt).trans h.f3, (hb.cell hlt).trans h.f4, (hb.cell hlt).trans h.f5, (hb.cell hlt).trans h.f6⟩
theorem EvAt.new (w : World) (T : TypeId) (t s q d k v g : Int) : EvAt (w.alloc (.cells #[.int .i64 t, .int .i64 s, .int .i64 q, .int .i64 d, .int .i64 k, .int .i64 v, .int .i64 g] T)) w.heap.size 0 t s q d k v g := by
 constructor <;> simp
theorem EvAt.alloc {w : World} {b o : Nat} {t s q d k v g : Int} (h : EvAt w b o t s q d k v g) (hlt : b < w.heap.size) (x : Obj) : EvAt (w.alloc x) b o t s q d k v g :=
 h.below ((Below.refl _ w).alloc (Nat.le_refl _) x) hlt
theorem EvAt.lits {w : World} {b : Nat} {t s q d k v g : Int} (h : EvAt w b 0 t s q d k v g) : w.cell? ⟨b, 0, none⟩ = some (.int .i64 t) ∧ w.cell? ⟨b, 1, none⟩ = some (.int .i64 s) ∧ w.cell? ⟨b, 2, none⟩ = some (.int .i64 q) ∧ w.cell? ⟨b, 3, none⟩ = some (.int .i64 d) ∧ w.cell? ⟨b, 4, none⟩ = some (.int .i64 k) ∧ w.cell? ⟨b, 5, none⟩ = some (.int .i64 v) ∧ w.cell? ⟨b, 6, none⟩ = some (.int .i64 g) :=
 ⟨h.f0, h.f1, h.f2, h.f3, h.f4, h.f5, h.f6⟩
end Go.Proofs.YtbljfphdghfkfaaGreatDoor

/- A region that draws its order, whose operations only read and whose callees lay blocks of their own, is walked once, in the order of the text. -/
namespace Go.Proofs.YtbljfphdghfkfaaGreatDoor
open Go.RowKit
structure Beyond (W : World) where
 w : World
 h : Below W.heap.size W w
theorem Beyond.cell {W : World} (p : Beyond W) {b o : Nat} {v : Value} (hb : b < W.heap.size) (h : W.cell? ⟨b, o, none⟩ = some v) : p.w.cell? ⟨b, o, none⟩ = some v := (p.h.cell (p := ⟨b, o, none⟩) hb).trans h
theorem Beyond.of {P : Program} {f : FuncId} {args : Array Value} {W : World} {p : Beyond W} {v : Value} (h : Calls P f args p.w fun e w' => e = .returned v ∧ Below p.w.heap.size p.w w') :
  Calls P f args p.w fun e w'' => e = .returned v ∧ ∃ p' : Beyond W, w'' = p'.w :=
 h.mono fun _ w'' ⟨he, hb⟩ => ⟨he, ⟨w'', p.h.trans (hb.mono p.h.size)⟩, rfl⟩
theorem wp_region_beyond {P : Program} {id : Nat} {Q : Exit → Act → World → Prop} {a : Act} {W : World} {l : List Oper} (hm : P.follows .mixedOrders = true) (hB : Region.lexB .any l.toArray = true)
  (h : wpQuiet P l.toArray (fun w' => ∃ p : Beyond W, w' = p.w) (fun a' => ∀ w', (∃ p : Beyond W, w' = p.w) → Q .normal a' w') l a) : (Code.region id l.toArray true).wp P Q a W :=
 wp_region_quiet (C := fun w' => ∃ p : Beyond W, w' = p.w) hm hB ⟨⟨_, (Below.refl _ W).drew⟩, rfl⟩ (by simpa using h)
theorem EvAt.beyond {W : World} {b o : Nat} {t s q d k v g : Int} (h : EvAt W b o t s q d k v g) (hb : b < W.heap.size) :
  (∀ p : Beyond W, p.w.cell? ⟨b, o, none⟩ = some (.int .i64 t)) ∧ (∀ p : Beyond W, p.w.cell? ⟨b, o + 1, none⟩ = some (.int .i64 s)) ∧ (∀ p : Beyond W, p.w.cell? ⟨b, o + 2, none⟩ = some (.int .i64 q)) ∧ (∀ p : Beyond W, p.w.cell? ⟨b, o + 3, none⟩ = some (.int .i64 d)) ∧
  (∀ p : Beyond W, p.w.cell? ⟨b, o + 4, none⟩ = some (.int .i64 k)) ∧ (∀ p : Beyond W, p.w.cell? ⟨b, o + 5, none⟩ = some (.int .i64 v)) ∧ (∀ p : Beyond W, p.w.cell? ⟨b, o + 6, none⟩ = some (.int .i64 g)) :=
 ⟨fun p => p.cell hb h.f0, fun p => p.cell hb h.f1, fun p => p.cell hb h.f2, fun p => p.cell hb h.f3, fun p => p.cell hb h.f4, fun p => p.cell hb h.f5, fun p => p.cell hb h.f6⟩
end Go.Proofs.YtbljfphdghfkfaaGreatDoor

